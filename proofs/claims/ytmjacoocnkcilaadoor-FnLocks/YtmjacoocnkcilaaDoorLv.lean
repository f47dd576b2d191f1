/-
  Who has what: the specification's walks; what the sets say.
-/
import Derived.Test.YtmjacoocnkcilaaDoorLu
import Derived.Test.YtmjacoocnkcilaaDoorLs
namespace Go.Proofs.YtmjacoocnkcilaaDoor
open Go Go.RowKit
attribute [local go_sem ↓] Go.wp_at_zero Go.wp_at_succ

def covB (a b : Int) : Bool := decide (a = b) || decide (a = 4) || decide (b = 1)
def hasK (x b r m : Int) (v : LK) : Bool := decide (v.x = x) && decide (v.b = b) && decide (v.r = r) && covB v.m m
theorem fold_hOf (b r j y : Int) (hy : 0 ≤ y) : ∀ (L : List LK) (h : HM), (∀ v ∈ L, okK v = true) →
    inT (L.foldl (stH b r) h j) y = (inT (h j) y || L.any (fun v => decide (v.b = b) && decide (v.r = r) && decide (v.m = j) && decide (v.x = y)))
  | [], h, _ => by simp
  | v :: L, h, hL => by
    rw [List.foldl_cons, fold_hOf b r j y hy L (stH b r h v) (fun u hu => hL u (List.mem_cons_of_mem _ hu)), List.any_cons, ← Bool.or_assoc]
    congr 1
    obtain ⟨vx, vb, vr, vm⟩ := v
    have hb := okK_bounds (hL ⟨vx, vb, vr, vm⟩ (List.mem_cons_self))
    unfold stH
    by_cases h1 : vb = b ∧ vr = r
    · rw [if_pos h1]
      unfold addH
      obtain ⟨h1, h2⟩ := h1
      subst h1; subst h2
      by_cases h3 : j = vm
      · subst h3
        simp [inT_or (by omega : 0 ≤ vx) (by omega) hy]
      · have : ¬ vm = j := fun e => h3 e.symm
        simp [h3, this]
    · rw [if_neg h1]
      by_cases h2 : vb = b
      · have h3 : ¬ vr = r := fun e => h1 ⟨h2, e⟩
        simp [h3]
      · simp [h2]
theorem hOf_in (vs : List LK) (b r j y : Int) (hy : 0 ≤ y) (hall : vs.all okK = true) : inT (hOf vs b r vs.length j) y = true ↔ ∃ v ∈ vs, v.b = b ∧ v.r = r ∧ v.m = j ∧ v.x = y := by
  unfold hOf
  rw [List.take_length, fold_hOf b r j y hy vs zeroH (List.all_eq_true.1 hall), show zeroH j = 0#64 from rfl, inT_zero, Bool.false_or, List.any_eq_true]
  simp only [Bool.and_eq_true, decide_eq_true_eq, and_assoc]
theorem have_any (vs : List LK) (x b r m : Int) (hx : 1 ≤ x ∧ x ≤ 60) (hall : vs.all okK = true) : inT (haveS (hOf vs b r vs.length) m) x = vs.any (hasK x b r m) := by
  have key : ∀ j, inT (hOf vs b r vs.length j) x = true ↔ ∃ v ∈ vs, v.b = b ∧ v.r = r ∧ v.m = j ∧ v.x = x := fun j => hOf_in vs b r j x (by omega) hall
  rw [Bool.eq_iff_iff, List.any_eq_true]
  have hk : ∀ v : LK, hasK x b r m v = true ↔ v.x = x ∧ v.b = b ∧ v.r = r ∧ (v.m = m ∨ v.m = 4 ∨ m = 1) := fun v => by
    unfold hasK covB
    simp only [Bool.and_eq_true, Bool.or_eq_true, decide_eq_true_eq, and_assoc, or_assoc]
  unfold haveS
  by_cases h1 : m = 1
  · rw [if_pos h1, inT_or2, inT_or2, inT_or2, Bool.or_eq_true, Bool.or_eq_true, Bool.or_eq_true, key, key, key, key]
    constructor
    · rintro ((⟨v, hv, a, c, _, d⟩ | ⟨v, hv, a, c, _, d⟩) | (⟨v, hv, a, c, _, d⟩ | ⟨v, hv, a, c, _, d⟩))
      all_goals exact ⟨v, hv, (hk v).2 ⟨d, a, c, .inr (.inr h1)⟩⟩
    · rintro ⟨v, hv, hp⟩
      obtain ⟨d, a, c, _⟩ := (hk v).1 hp
      have hb := okK_bounds (List.all_eq_true.1 hall v hv)
      have hc : v.m = m ∨ v.m = 4 ∨ v.m = 2 ∨ v.m = 3 := by omega
      rcases hc with e | e | e | e
      · exact .inl (.inl ⟨v, hv, a, c, e, d⟩)
      · exact .inl (.inr ⟨v, hv, a, c, e, d⟩)
      · exact .inr (.inl ⟨v, hv, a, c, e, d⟩)
      · exact .inr (.inr ⟨v, hv, a, c, e, d⟩)
  · rw [if_neg h1, inT_or2, Bool.or_eq_true, key, key]
    constructor
    · rintro (⟨v, hv, a, c, e, d⟩ | ⟨v, hv, a, c, e, d⟩)
      · exact ⟨v, hv, (hk v).2 ⟨d, a, c, .inl e⟩⟩
      · exact ⟨v, hv, (hk v).2 ⟨d, a, c, .inr (.inl e)⟩⟩
    · rintro ⟨v, hv, hp⟩
      obtain ⟨d, a, c, e | e | e⟩ := (hk v).1 hp
      · exact .inl ⟨v, hv, a, c, e, d⟩
      · exact .inr ⟨v, hv, a, c, e, d⟩
      · exact absurd e h1
set_option maxRecDepth 100000 in
set_option maxHeartbeats 8000000 in
theorem c_covers (a b : Int) (w : World) : Calls Tryd.prog 82 #[.int .i64 a, .int .i64 b] w fun e w' => e = .returned (.bool (covB a b)) ∧ w' = w := by
  by_cases h1 : a = b
  · subst h1
    go_enter Tryd.func82, Tryd.ntmps82
    go_wp2
    go_ret
    exact ⟨ret_bool (by simp [covB]), rfl⟩
  have c1 : (a == b) = false := by simpa using h1
  by_cases h2 : a = 4
  · have E : Hid (covB a b = true) := by simp [Hid, covB, h2]
    have c2 : (a == 4) = true := by simpa using h2
    go_enter Tryd.func82, Tryd.ntmps82
    go_wp2
    go_ret
    exact ⟨ret_bool E.out.symm, rfl⟩
  have c2 : (a == 4) = false := by simpa using h2
  by_cases h3 : b = 1
  · have E : Hid (covB a b = true) := by simp [Hid, covB, h3]
    have c3 : (b == 1) = true := by simpa using h3
    go_enter Tryd.func82, Tryd.ntmps82
    go_wp2
    go_ret
    exact ⟨ret_bool E.out.symm, rfl⟩
  have E : Hid (covB a b = false) := by simp [Hid, covB, h1, h2, h3]
  have c3 : (b == 1) = false := by simpa using h3
  go_enter Tryd.func82, Tryd.ntmps82
  go_wp2
  go_ret
  exact ⟨ret_bool E.out.symm, rfl⟩
set_option maxRecDepth 100000 in
set_option maxHeartbeats 8000000 in
theorem c_l06Holds (h : HL) (vs : List LK) (ws : List WK) (x b r m : Int) (w : World) (rd : RdL w h vs ws) (f0 : vs.length ≤ 1048576) :
    Calls Tryd.prog 52 #[.agg #[.slice h.a0 vs.length h.c0, .slice h.a1 ws.length h.c1], .int .i64 x, .int .i64 b, .int .i64 r, .int .i64 m] w fun e w' => e = .returned (.bool (vs.any (hasK x b r m))) ∧ Below w.heap.size w w' := by
  have R : Hid (RdL w h vs ws) := rd
  clear rd
  obtain ⟨V, hV⟩ : ∃ V, w.alloc (.cells #[.slice h.a0 vs.length h.c0, .slice h.a1 ws.length h.c1] 34) = V := ⟨_, rfl⟩
  have B : Hid (Below w.heap.size w V) := by unfold Hid; rw [← hV]; exact (Below.refl _ _).alloc (Nat.le_refl _) _
  have X : Hid (Box V w.heap.size 34 #[.slice h.a0 vs.length h.c0, .slice h.a1 ws.length h.c1]) := by unfold Hid; rw [← hV]; exact Box.new _ _ _
  go_enter Tryd.func52, Tryd.ntmps52
  go_wp2
  go_loopw [11] (fun s wr => ∃ k : Nat, k ≤ vs.length ∧ s = .int .i64 (k : Int) ∧ Hid ((vs.take k).any (hasK x b r m) = false) ∧ Hid (Below V.heap.size V wr)) (fun s _ => vs.length - (intOf s).toNat)
  case atStart => exact ⟨0, by omega, rfl, rfl, Below.refl _ _⟩
  case round =>
    obtain ⟨k, hk, rfl, HK, HB⟩ := hrel
    have Xr := X.out.belowS HB.out
    have HBw : Hid (Below w.heap.size w wr) := B.out.trans (HB.out.mono B.out.size)
    obtain ⟨x0, x1⟩ := box2 Xr
    by_cases hlt : k < vs.length
    · obtain ⟨hl, hcs⟩ := R.out.1
      obtain ⟨ba, off, ha, hbl, hc⟩ := hcs (by omega)
      rw [ha] at x0
      clear ha
      obtain ⟨⟨vx, vb, vr, vm⟩, hv⟩ : ∃ v, v = vs.getD k dK := ⟨_, rfl⟩
      obtain ⟨d0, d1, d2, d3⟩ := hc k hlt
      rw [← hv] at d0 d1 d2 d3
      have e0 : wr.cell? ⟨ba, off + k * 4, none⟩ = some (.int .i64 vx) := by rw [HBw.out.cell (p := ⟨ba, off + k * 4, none⟩) hbl, d0]
      have e1 : wr.cell? ⟨ba, off + k * 4 + 1, none⟩ = some (.int .i64 vb) := by rw [HBw.out.cell (p := ⟨ba, off + k * 4 + 1, none⟩) hbl, d1]
      have e2 : wr.cell? ⟨ba, off + k * 4 + 2, none⟩ = some (.int .i64 vr) := by rw [HBw.out.cell (p := ⟨ba, off + k * 4 + 2, none⟩) hbl, d2]
      have e3 : wr.cell? ⟨ba, off + k * 4 + 3, none⟩ = some (.int .i64 vm) := by rw [HBw.out.cell (p := ⟨ba, off + k * 4 + 3, none⟩) hbl, d3]
      have HS : Hid ((vs.take (k + 1)).any (hasK x b r m) = ((vs.take k).any (hasK x b r m) || hasK x b r m ⟨vx, vb, vr, vm⟩)) := by
        unfold Hid
        rw [List.take_add_one, List.any_append, List.getElem?_eq_getElem hlt, hv, List.getD_eq_getElem?_getD, List.getElem?_eq_getElem hlt]
        simp
      have YES : Hid (hasK x b r m ⟨vx, vb, vr, vm⟩ = true → vs.any (hasK x b r m) = true) := fun hh => by
        rw [List.any_eq_true]
        exact ⟨vs.getD k dK, getD_memK hlt, by rw [← hv]; exact hh⟩
      obtain ⟨w3, hw3⟩ : ∃ W, wr.alloc (.cells #[.int .i64 vx, .int .i64 vb, .int .i64 vr, .int .i64 vm] 55) = W := ⟨_, rfl⟩
      have hb3 : Below wr.heap.size wr w3 := by rw [← hw3]; exact (Below.refl _ _).alloc (Nat.le_refl _) _
      have K3 : Box w3 wr.heap.size 55 #[.int .i64 vx, .int .i64 vb, .int .i64 vr, .int .i64 vm] := by rw [← hw3]; exact Box.new _ _ _
      have HB3 : Hid (Below V.heap.size V w3) := HB.out.trans (hb3.mono HB.out.size)
      have HW3 : Hid (Below w.heap.size w w3) := HBw.out.trans (hb3.mono HBw.out.size)
      have q0 := K3.cell 0
      have q1 := K3.cell 1
      have q2 := K3.cell 2
      have q3 := K3.cell 3
      simp only [List.getElem?_toArray, List.getElem?_cons_zero, List.getElem?_cons_succ] at q0 q1 q2 q3
      clear hc hcs d0 d1 d2 d3 hv hb3 K3 Xr
      by_cases ex : vx = x
      case neg =>
        have cx : (vx == x) = false := by simpa using ex
        have PF : Hid (hasK x b r m ⟨vx, vb, vr, vm⟩ = false) := by simp [Hid, hasK, ex]
        go_wp2
        go_roundw
        case rel => exact ⟨k + 1, by omega, by go_num, by unfold Hid; rw [HS.out, HK.out, PF.out]; rfl, HB3⟩
        case measure => simp [intOf]; omega
      have cx : (vx == x) = true := by simpa using ex
      by_cases eb : vb = b
      case neg =>
        have cb : (vb == b) = false := by simpa using eb
        have PF : Hid (hasK x b r m ⟨vx, vb, vr, vm⟩ = false) := by simp [Hid, hasK, eb]
        clear ex eb
        go_wp2
        go_roundw
        case rel => exact ⟨k + 1, by omega, by go_num, by unfold Hid; rw [HS.out, HK.out, PF.out]; rfl, HB3⟩
        case measure => simp [intOf]; omega
      have cb : (vb == b) = true := by simpa using eb
      by_cases er : vr = r
      case neg =>
        have cr : (vr == r) = false := by simpa using er
        have PF : Hid (hasK x b r m ⟨vx, vb, vr, vm⟩ = false) := by simp [Hid, hasK, er]
        clear ex eb er
        go_wp2
        go_roundw
        case rel => exact ⟨k + 1, by omega, by go_num, by unfold Hid; rw [HS.out, HK.out, PF.out]; rfl, HB3⟩
        case measure => simp [intOf]; omega
      have cr : (vr == r) = true := by simpa using er
      obtain ⟨f, hf⟩ : ∃ f, covB vm m = f := ⟨_, rfl⟩
      have CF : Hid (∀ W : World, Calls Tryd.prog 82 #[.int .i64 vm, .int .i64 m] W fun e w' => e = .returned (.bool f) ∧ w' = W) := fun W => by rw [← hf]; exact c_covers vm m W
      have PF : Hid (hasK x b r m ⟨vx, vb, vr, vm⟩ = f) := by simp [Hid, hasK, ex, eb, er, hf]
      clear hf ex eb er
      go_wp2_with fail
      refine (CF.out w3).mono ?_
      rintro e wq ⟨rfl, hwq⟩; rw [hwq]; clear hwq
      cases f
      · go_wp2
        go_roundw
        case rel => exact ⟨k + 1, by omega, by go_num, by unfold Hid; rw [HS.out, HK.out, PF.out]; rfl, HB3⟩
        case measure => simp [intOf]; omega
      · go_wp2
        go_ret
        exact ⟨ret_bool (YES.out PF.out).symm, HW3.out⟩
    · have e : k = vs.length := by omega
      have HA := HK.out
      rw [e, List.take_length] at HA
      have cge : ¬ (k : Int) < (vs.length : Int) := by omega
      have E : Hid (vs.any (hasK x b r m) = false) := HA
      clear e HA
      go_wp2
      go_ret
      exact ⟨ret_bool E.out.symm, HBw.out⟩

end Go.Proofs.YtmjacoocnkcilaaDoor
