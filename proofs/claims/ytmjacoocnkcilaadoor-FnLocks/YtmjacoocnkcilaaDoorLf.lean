/-
  Whether the locks that are held fit, table by table.
-/
import Derived.Test.YtmjacoocnkcilaaDoorLn
import Derived.Test.YtmjacoocnkcilaaDoorLi
import Derived.Deep.RegionWith
import Derived.Deep.DeepCutAuto
namespace Go.Proofs.YtmjacoocnkcilaaDoor
open Go Go.RowKit
attribute [local go_sem ↓] Go.wp_at_zero Go.wp_at_succ

open Go.Maps
def updT (T : Int) (f : FM) (v : LK) : FM := if v.b = T then putM f v.r (addH (f v.r) v.m v.x) else f
def fT (vs : List LK) (T : Int) (k : Nat) : FM := (vs.take k).foldl (updT T) (fun _ => zeroH)
def badT (T : Int) (f : FM) (v : LK) : Bool := decide (v.b = T) && (inT (f v.r v.m) v.x || decide (agH (f v.r) v.x v.m ≠ 0#64))
def okT (vs : List LK) (T : Int) : Nat → Bool
  | 0 => true
  | k + 1 => okT vs T k && !badT T (fT vs T k) (vs.getD k dK)
def okUp (vs : List LK) : Nat → Bool
  | 0 => true
  | t + 1 => okUp vs t && (decide (t = 0) || okT vs (t : Int) vs.length)
def fitL (vs : List LK) : Bool := okUp vs 4
theorem fT_step (vs : List LK) (T : Int) (k : Nat) (hk : k < vs.length) : fT vs T (k + 1) = updT T (fT vs T k) (vs.getD k dK) := by
  unfold fT
  rw [List.take_add_one, List.foldl_append, List.getElem?_eq_getElem hk, List.getD_eq_getElem?_getD, List.getElem?_eq_getElem hk]
  rfl
theorem okT_le {vs : List LK} {T : Int} {j : Nat} (h : okT vs T j = false) : ∀ i, j ≤ i → okT vs T i = false := by
  intro i hi
  induction i with
  | zero => have : j = 0 := by omega
            rw [this] at h; exact h
  | succ i ih =>
    by_cases e : j = i + 1
    · rw [← e]; exact h
    · show (okT vs T i && _) = false
      rw [ih (by omega)]; rfl
theorem okUp_le {vs : List LK} {j : Nat} (h : okUp vs j = false) : ∀ i, j ≤ i → okUp vs i = false := by
  intro i hi
  induction i with
  | zero => have : j = 0 := by omega
            rw [this] at h; exact h
  | succ i ih =>
    by_cases e : j = i + 1
    · rw [← e]; exact h
    · show (okUp vs i && _) = false
      rw [ih (by omega)]; rfl
theorem fitL_no {vs : List LK} {T k : Nat} (h1 : 1 ≤ T) (h3 : T ≤ 3) (hk : k ≤ vs.length) (h : okT vs T k = false) : fitL vs = false := by
  refine okUp_le (j := T + 1) ?_ 4 (by omega)
  show (okUp vs T && (decide (T = 0) || okT vs (T : Int) vs.length)) = false
  rw [okT_le h _ hk, decide_eq_false (by omega)]
  simp
theorem okUp_step {vs : List LK} {T : Nat} (h : okUp vs T = true) (ho : okT vs T vs.length = true) : okUp vs (T + 1) = true := by
  show (okUp vs T && (decide (T = 0) || okT vs (T : Int) vs.length)) = true
  rw [h, ho]; simp
theorem okK_bounds {x b r m : Int} (h : okK ⟨x, b, r, m⟩ = true) : (1 ≤ x ∧ x ≤ 60) ∧ (1 ≤ b ∧ b ≤ 3) ∧ (-1 ≤ r ∧ r ≤ 1000) ∧ (1 ≤ m ∧ m ≤ 4) := by
  unfold okK at h
  simp only [Bool.and_eq_true, inB_iff] at h
  exact ⟨h.1.1.1.1, h.1.1.1.2, h.1.1.2, h.1.2⟩
theorem okT_bad {vs : List LK} {T : Int} {k : Nat} (h : badT T (fT vs T k) (vs.getD k dK) = true) : okT vs T (k + 1) = false := by
  show (okT vs T k && !badT T (fT vs T k) (vs.getD k dK)) = false
  rw [h]; simp
theorem okT_good {vs : List LK} {T : Int} {k : Nat} (h0 : okT vs T k = true) (h : badT T (fT vs T k) (vs.getD k dK) = false) : okT vs T (k + 1) = true := by
  show (okT vs T k && !badT T (fT vs T k) (vs.getD k dK)) = true
  rw [h, h0]; rfl
theorem OwnM.mono {w : World} {b n n' : Nat} {f : FM} (h : OwnM w b n f) (hn : n ≤ n') : OwnM w b n' f := by
  obtain ⟨D, ho, hm, ha⟩ := h; exact ⟨D, ho.mono hn, hm, ha⟩
set_option maxRecDepth 100000 in
set_option maxHeartbeats 8000000 in
theorem c_fitting (a : Option Addr) (n cap : Nat) (vs : List LK) (w : World) (hr : RdK w a n vs) (hn : n ≤ 60) (hall : vs.all okK = true) (ht : FitH w) :
    Calls Tryd.prog 49 #[.slice a n cap] w fun e w' => e = .returned (.bool (fitL vs)) ∧ Below w.heap.size w w' := by
  have HT : Hid (FitH w) := ht
  obtain ⟨hl, hcs⟩ := hr
  have HALL : Hid (∀ k, k < n → okK (vs.getD k dK) = true) := fun k hk => by
    have hk' : k < vs.length := by omega
    rw [List.getD_eq_getElem?_getD, List.getElem?_eq_getElem hk']
    exact List.all_eq_true.1 hall _ (List.getElem_mem hk')
  clear ht hall
  have hmm := @run_makeMap Tryd.prog
  go_enter Tryd.func49, Tryd.ntmps49
  go_wp2
  go_loopw [4] (fun s wr => ∃ (T n' : Nat) (f : FM), 1 ≤ T ∧ T ≤ 4 ∧ s = .int .i64 (T : Int) ∧ Hid (OwnM wr w.heap.size n' f) ∧ Hid (okUp vs T = true) ∧ Hid (Below w.heap.size w wr)) (fun s _ => 5 - (intOf s).toNat)
  case atStart => exact ⟨1, 0, _, by omega, by omega, rfl, OwnM.made w, rfl, (Below.refl _ _).alloc (Nat.le_refl _) _⟩
  case round =>
    obtain ⟨T, n', f, hT1, hT4, rfl, HM, HU, HB⟩ := hrel
    by_cases hT : T ≤ 3
    · have cT : (T : Int) ≤ 3 := by omega
      go_wp2_with (refine wp_clearH _ rfl (.tmp 13) rfl w.heap.size n' f rfl HM.out ?_; intro v1 w1 hown1 hg1)
      have HM1 : Hid (OwnM w1 w.heap.size 0 (fun _ => zeroH)) := hown1
      have HB1 : Hid (Below w.heap.size w w1) := HB.out.grown hg1 HB.out.size (fun k h => by cases h; exact Nat.le_refl _)
      clear hown1 hg1 HM HB
      go_loopw [16] (fun s wr => ∃ k : Nat, k ≤ n ∧ s = .int .i64 (k : Int) ∧ Hid (OwnM wr w.heap.size k (fT vs T k)) ∧ Hid (okT vs T k = true) ∧ Hid (Below w.heap.size w wr)) (fun s _ => n - (intOf s).toNat)
      case atStart => exact ⟨0, by omega, rfl, HM1, rfl, HB1⟩
      case round =>
        obtain ⟨k, hk, rfl, HM, HO, HB⟩ := hrel
        by_cases hlt : k < n
        · obtain ⟨b, off, rfl, hbl, hc⟩ := hcs (by omega)
          have hok := HALL.out k hlt
          have hst := fT_step vs T k (by omega)
          obtain ⟨⟨vx, vb, vr, vm⟩, hv⟩ : ∃ v, v = vs.getD k dK := ⟨_, rfl⟩
          obtain ⟨d0, d1, d2, d3⟩ := hc k hlt
          rw [← hv] at d0 d1 d2 d3 hok hst
          obtain ⟨j, hj⟩ : ∃ j : Nat, vm = (j : Int) := ⟨vm.toNat, by have := (okK_bounds hok).2.2.2; omega⟩
          subst hj
          have e0 : wr.cell? ⟨b, off + k * 4, none⟩ = some (.int .i64 vx) := by rw [HB.out.cell (p := ⟨b, off + k * 4, none⟩) hbl, d0]
          have e1 : wr.cell? ⟨b, off + k * 4 + 1, none⟩ = some (.int .i64 vb) := by rw [HB.out.cell (p := ⟨b, off + k * 4 + 1, none⟩) hbl, d1]
          have e2 : wr.cell? ⟨b, off + k * 4 + 2, none⟩ = some (.int .i64 vr) := by rw [HB.out.cell (p := ⟨b, off + k * 4 + 2, none⟩) hbl, d2]
          have e3 : wr.cell? ⟨b, off + k * 4 + 3, none⟩ = some (.int .i64 (j : Int)) := by rw [HB.out.cell (p := ⟨b, off + k * 4 + 3, none⟩) hbl, d3]
          obtain ⟨bx, _, br, bm⟩ := okK_bounds hok
          have HV : Hid ((⟨vx, vb, vr, (j : Int)⟩ : LK) = vs.getD k dK) := hv
          have HST : Hid (fT vs T (k + 1) = updT T (fT vs T k) ⟨vx, vb, vr, (j : Int)⟩) := hst
          clear hc hcs d0 d1 d2 d3 hv hst hok HM1 HB1
          obtain ⟨w2, hw2⟩ : ∃ W, wr.alloc (.cells #[.int .i64 vx, .int .i64 vb, .int .i64 vr, .int .i64 (j : Int)] 55) = W := ⟨_, rfl⟩
          have hb2 : Below wr.heap.size wr w2 := by rw [← hw2]; exact (Below.refl _ _).alloc (Nat.le_refl _) _
          have BK2 : Hid (Box w2 wr.heap.size 55 #[.int .i64 vx, .int .i64 vb, .int .i64 vr, .int .i64 (j : Int)]) := by unfold Hid; rw [← hw2]; exact Box.new _ _ _
          have lm := HM.out.lt
          have HM2 : Hid (OwnM w2 w.heap.size k (fT vs T k)) := HM.out.kept (hb2.block _ lm)
          have HB2 : Hid (Below w.heap.size w w2) := HB.out.trans (hb2.mono HB.out.size)
          have c0 := BK2.out.cell 0
          have c1 := BK2.out.cell 1
          have c2 := BK2.out.cell 2
          have c3 := BK2.out.cell 3
          simp only [List.getElem?_toArray, List.getElem?_cons_zero, List.getElem?_cons_succ] at c0 c1 c2 c3
          clear hb2 HM HB
          by_cases hbT : vb = (T : Int)
          · subst hbT
            have hq : ((T : Int) != (T : Int)) = false := by simp
            obtain ⟨hh, hhd⟩ : ∃ hh, fT vs T k vr = hh := ⟨_, rfl⟩
            have HHD : Hid (fT vs T k vr = hh) := hhd
            obtain ⟨w3, hw3⟩ : ∃ W, w2.alloc (.cells (cH hh) 76) = W := ⟨_, rfl⟩
            have hb3 : Below w2.heap.size w2 w3 := by rw [← hw3]; exact (Below.refl _ _).alloc (Nat.le_refl _) _
            have BH3 : Hid (Box w3 w2.heap.size 76 (cH hh)) := by unfold Hid; rw [← hw3]; exact Box.new _ _ _
            have BK3 : Hid (Box w3 wr.heap.size 55 #[.int .i64 vx, .int .i64 (T : Int), .int .i64 vr, .int .i64 (j : Int)]) := BK2.out.belowS hb3
            have lk := BK2.out.lt
            have lm2 := HM2.out.lt
            have HM3 : Hid (OwnM w3 w.heap.size k (fT vs T k)) := HM2.out.kept (hb3.block _ lm2)
            have HB3 : Hid (Below w.heap.size w w3) := HB2.out.trans (hb3.mono HB2.out.size)
            have HF3 : Hid (FitH w3) := HT.out.below HB3.out
            have lh := BH3.out.lt
            have cm := BH3.out.cell j
            have hg := cH_get hh (m := (j : Int)) (by omega)
            rw [Int.toNat_natCast] at hg
            rw [hg] at cm
            have h0 := BH3.out.cell 0
            have h1 := BH3.out.cell 1
            have h2 := BH3.out.cell 2
            have h3 := BH3.out.cell 3
            have h4 := BH3.out.cell 4
            have g0 := BK3.out.cell 0
            have g1 := BK3.out.cell 1
            have g2 := BK3.out.cell 2
            have g3 := BK3.out.cell 3
            unfold cH at hw3 h0 h1 h2 h3 h4
            simp only [List.getElem?_toArray, List.getElem?_cons_zero, List.getElem?_cons_succ] at h0 h1 h2 h3 h4 g0 g1 g2 g3
            have cj : (j : Int) < 5 := by omega
            obtain ⟨p, hp⟩ : ∃ p, inT (hh (j : Int)) vx = p := ⟨_, rfl⟩
            obtain ⟨A, hA⟩ : ∃ A, agH hh vx (j : Int) = A := ⟨_, rfl⟩
            obtain ⟨q, hqd⟩ : ∃ q, decide (A ≠ 0#64) = q := ⟨_, rfl⟩
            have hne := ne_zero (b := A)
            rw [hqd] at hne
            have CH : Hid (∀ W : World, Calls Tryd.prog 76 #[.int .u64 ((hh (j : Int)).toNat : Int), .int .i64 vx] W fun e w' => e = .returned (.bool p) ∧ w' = W) := fun W => by rw [← hp]; exact c_has _ vx W (by omega) (by omega)
            have CA : Hid (∀ W : World, FitH W → Calls Tryd.prog 77 #[.agg (cH hh), .agg #[.int .i64 vx, .int .i64 (T : Int), .int .i64 vr, .int .i64 (j : Int)]] W fun e w' => e = .returned (.int .u64 ((A.toNat : Nat) : Int)) ∧ Below W.heap.size W w') := fun W hW => by rw [← hA]; exact c_against hh vx T vr j W hW (by omega) bx
            have HBD : Hid (badT T (fT vs T k) (vs.getD k dK) = (p || q)) := by
              unfold Hid badT
              rw [← HV.out]
              show (decide ((T : Int) = T) && (inT (fT vs T k vr j) vx || decide (agH (fT vs T k vr) vx j ≠ 0#64))) = _
              rw [hhd, hp, hA, hqd]; simp
            unfold cH at CA
            clear hb3 hg hA hqd hp HB2 BK2 c3
            go_wp2_with (at_lookup; refine wp_lookH _ rfl (.tmp 24) (.tmp 26) rfl w.heap.size k (fT vs T k) rfl HM2.out vr rfl br ?_; rw [hhd]; unfold cH)
            clear c0 c1 c2
            go_cut [41] (fun s wx => s = .bool (p || q) ∧ Hid (Below w3.heap.size w3 wx))
            case first =>
              cases p
              · go_region_with (first
                  | (go_at_call 76; refine (CH.out _).mono ?_; rintro e wy ⟨rfl, rfl⟩)
                  | (go_at_call 77; refine (CA.out _ ?_).mono ?_; (exact HF3.out); rintro e wz ⟨rfl, hbz⟩))
                all_goals (go_wp2_with fail; go_meet)
                all_goals exact ⟨rfl, Below.trans ((Below.refl _ _).drew) hbz⟩
              · go_region_with (first
                  | (go_at_call 76; refine (CH.out _).mono ?_; rintro e wy ⟨rfl, rfl⟩))
                all_goals (go_wp2_with fail; go_meet)
                all_goals exact ⟨rfl, below_drewN (Below.refl _ _) _⟩
            case rest =>
              rename World => wx
              obtain ⟨rfl, HBx⟩ := hcut
              have BHx := BH3.out.belowS HBx.out
              have BKx := BK3.out.belowS HBx.out
              have HBw : Hid (Below w.heap.size w wx) := HB3.out.trans (HBx.out.mono HB3.out.size)
              have HMx : Hid (OwnM wx w.heap.size k (fT vs T k)) := HM3.out.kept (HBx.out.block _ (by omega))
              clear CH CA h0 h1 h2 h3 h4 g0 g1 g2 g3 cm hw3 HM2 HM3
              cases hpq : (p || q)
              · rw [hpq] at HBD
                have q0 := BKx.cell 0
                have q1 := BKx.cell 1
                have q2 := BKx.cell 2
                have q3 := BKx.cell 3
                simp only [List.getElem?_toArray, List.getElem?_cons_zero, List.getElem?_cons_succ] at q0 q1 q2 q3
                have BHX : Hid (Box wx w2.heap.size 76 (cH hh)) := BHx
                have BKX : Hid (Box wx wr.heap.size 55 #[.int .i64 vx, .int .i64 (T : Int), .int .i64 vr, .int .i64 (j : Int)]) := BKx
                clear BHx BKx
                go_wp2_with fail
                refine (c_add w2.heap.size hh vx T vr j wx BHX.out (by omega) bx).mono ?_
                rintro e w5 ⟨⟨v5, rfl⟩, hb5, hi5⟩
                have BK5 := BKX.out.innO hi5 (.inl lk)
                have HM5 : Hid (OwnM w5 w.heap.size k (fT vs T k)) := HMx.out.kept (hi5.block _ HMx.out.lt (.inl lm2))
                have HB5 : Hid (Below w.heap.size w w5) := HBw.out.trans (hi5.below (by omega) HBw.out.size)
                clear q0 q1 q2 q3 HMx HBw hi5 BKX BHX
                have q2 := BK5.cell 2
                have h0 := hb5.cell 0
                have h1 := hb5.cell 1
                have h2 := hb5.cell 2
                have h3 := hb5.cell 3
                have h4 := hb5.cell 4
                unfold cH at h0 h1 h2 h3 h4
                simp only [List.getElem?_toArray, List.getElem?_cons_zero, List.getElem?_cons_succ] at h0 h1 h2 h3 h4 q2
                clear hb5 BK5
                go_wp2_with (at_mapUpdate; refine wp_putH _ rfl (.tmp 44) (.tmp 46) (.tmp 47) rfl w.heap.size k (fT vs T k) rfl HM5.out (by unfold maxLen; omega) vr rfl br (addH hh (j : Int) vx) rfl ?_; intro w6 hown6 hg6)
                have HM6 : Hid (OwnM w6 w.heap.size (k + 1) (putM (fT vs T k) vr (addH hh (j : Int) vx))) := hown6
                have HB6 : Hid (Below w.heap.size w w6) := HB5.out.grown hg6 HB5.out.size (fun k h => by cases h; exact Nat.le_refl _)
                clear hown6 hg6
                go_wp2
                go_roundw
                case rel =>
                  refine ⟨k + 1, by omega, by go_num, ?_, okT_good HO.out HBD.out, HB6⟩
                  unfold Hid
                  rw [HST.out]
                  unfold updT
                  rw [if_pos rfl]
                  show OwnM w6 w.heap.size (k + 1) (putM (fT vs T k) vr (addH (fT vs T k vr) j vx))
                  rw [HHD.out]
                  exact HM6.out
                case measure => simp [intOf]; omega
              · rw [hpq] at HBD
                go_wp2
                go_ret
                exact ⟨ret_bool (fitL_no hT1 hT (k := k + 1) (by omega) (okT_bad HBD.out)).symm, HBw.out⟩
          · have hq : (vb != (T : Int)) = true := by simpa using hbT
            go_wp2
            go_roundw
            case rel => exact ⟨k + 1, by omega, by go_num, by unfold Hid; rw [HST.out]; unfold updT; rw [if_neg hbT]; exact HM2.out.mono (by omega), okT_good HO.out (by rw [← HV.out]; unfold badT; rw [decide_eq_false hbT]; rfl), HB2⟩
            case measure => simp [intOf]; omega
        · have e : k = n := by omega
          subst e
          go_wp2
          go_roundw
          case rel => exact ⟨T + 1, _, _, by omega, by omega, by go_num, HM, okUp_step HU.out (by rw [hl]; exact HO.out), HB⟩
          case measure => simp [intOf]; omega
    · have e : T = 4 := by omega
      subst e
      go_wp2
      go_ret
      exact ⟨ret_bool HU.out.symm, HB.out⟩

end Go.Proofs.YtmjacoocnkcilaaDoor
