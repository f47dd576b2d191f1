/-
  A lock is taken, or waited for: the program's walk.
-/
import Derived.Test.YtmjacoocnkcilaaDoorLcd
import Derived.Deep.RegionWith
import Derived.Deep.DeepCutAuto
import Derived.Deep.AppendLies
import Derived.Deep.RegionLawGrows
namespace Go.Proofs.YtmjacoocnkcilaaDoor
open Go Go.RowKit
attribute [local go_sem ↓] Go.wp_at_zero Go.wp_at_succ

theorem wf_ok (vs : List LK) (x b r m : Int) (o : B64) (hall : ∀ v ∈ vs, okK v = true) (hx : 1 ≤ x ∧ x ≤ 60) (ho : inT o x = false) : ∀ k, k ≤ vs.length → (∀ e ∈ (wf vs x b r m o k).1, okW e = true) ∧ ∀ y : Int, 0 ≤ y → inT (wf vs x b r m o k).2 y = true → inT o y = true
  | 0, _ => ⟨fun e he => by simp [wf] at he, fun y _ h => h⟩
  | k + 1, h => by
    have ih := wf_ok vs x b r m o hall hx ho k (by omega)
    rw [wf_step _ _ _ _ _ _ _ (by omega)]
    have hv := okK_bounds (hall _ (getD_memK (show k < vs.length by omega)))
    unfold wfS
    split
    · rename_i hc
      refine ⟨fun e he => ?_, fun y hy hin => ?_⟩
      · rcases List.mem_append.1 he with h1 | h1
        · exact ih.1 e h1
        · have e1 : e = ⟨x, (vs.getD k dK).x⟩ := by simpa using h1
          have hne : x ≠ (vs.getD k dK).x := fun hh => by
            have := ih.2 _ (by omega) hc.2.2.2
            rw [← hh, ho] at this
            cases this
          rw [e1]
          unfold okW inB
          have hv1 : 1 ≤ (vs.getD k dK).x ∧ (vs.getD k dK).x ≤ 60 := hv.1
          simp only [decide_eq_true hx, decide_eq_true hv1, decide_eq_true hne]; rfl
      · refine ih.2 y hy ?_
        unfold subT inT at hin
        rw [BitVec.getLsbD_and, Bool.and_eq_true] at hin
        exact hin.1
    · exact ih
def Kep (g B : Nat) (w w' : World) : Prop := Below g w w' ∧ ∀ j, g < j → j < B → w'.heap[j]? = w.heap[j]?
theorem Kep.of_inn {g B : Nat} {w w' : World} (h : Inn g (g + 1) w w') (hg : g ≤ w.heap.size) (hB : B ≤ w.heap.size) : Kep g B w w' := ⟨h.below (Nat.le_refl _) hg, fun j h1 h2 => h.block j (by omega) (.inr h1)⟩
theorem Kep.box {g B j : Nat} {w w' : World} {t : TypeId} {c : Array Value} (k : Kep g B w w') (h : Box w j t c) (h1 : g < j) (h2 : j < B) : Box w' j t c := (k.2 j h1 h2).trans h
def callW (ws : List WK) (x : Int) : List WK := ws.filter (fun v => decide (v.x ≠ x))
def tkO (vs : List LK) (x b r m : Int) : B64 := agH (hOf vs b r vs.length) x m
def tkF (vs : List LK) (x b r m : Int) : List WK := (wf vs x b r m (tkO vs x b r m) vs.length).1
def tkV (vs : List LK) (x b r m : Int) : List LK := if vs.any (hasK x b r m) = true then vs else if tkO vs x b r m ≠ 0#64 then vs else if vs.length = 60 then vs else vs ++ [⟨x, b, r, m⟩]
noncomputable def tkW (vs : List LK) (ws : List WK) (x b r m : Int) : List WK := if vs.any (hasK x b r m) = true then callW ws x else if tkO vs x b r m ≠ 0#64 then awW (callW ws x) (tkF vs x b r m) x else callW ws x
noncomputable def tkC (vs : List LK) (ws : List WK) (x b r m : Int) : Int := if vs.any (hasK x b r m) = true then 0 else if tkO vs x b r m ≠ 0#64 then awC (callW ws x) (tkF vs x b r m) x else if vs.length = 60 then 7 else 0
theorem tk_have {vs : List LK} {ws : List WK} {x b r m : Int} (h : vs.any (hasK x b r m) = true) : tkV vs x b r m = vs ∧ tkW vs ws x b r m = callW ws x ∧ tkC vs ws x b r m = 0 := by
  unfold tkV tkW tkC; simp only [h, if_true, and_self]
theorem tk_wait {vs : List LK} {ws : List WK} {x b r m : Int} (h : vs.any (hasK x b r m) = false) (ho : tkO vs x b r m ≠ 0#64) : tkV vs x b r m = vs ∧ tkW vs ws x b r m = awW (callW ws x) (tkF vs x b r m) x ∧ tkC vs ws x b r m = awC (callW ws x) (tkF vs x b r m) x := by
  unfold tkV tkW tkC; simp [h, ho]
theorem tk_full {vs : List LK} {ws : List WK} {x b r m : Int} (h : vs.any (hasK x b r m) = false) (ho : tkO vs x b r m = 0#64) (hl : vs.length = 60) : tkV vs x b r m = vs ∧ tkW vs ws x b r m = callW ws x ∧ tkC vs ws x b r m = 7 := by
  unfold tkV tkW tkC; simp [h, ho, hl]
theorem tk_got {vs : List LK} {ws : List WK} {x b r m : Int} (h : vs.any (hasK x b r m) = false) (ho : tkO vs x b r m = 0#64) (hl : vs.length ≠ 60) : tkV vs x b r m = vs ++ [⟨x, b, r, m⟩] ∧ tkW vs ws x b r m = callW ws x ∧ tkC vs ws x b r m = 0 := by
  unfold tkV tkW tkC; simp [h, ho, hl]
theorem tkF_ok (vs : List LK) (ws : List WK) (x b r m : Int) (hall : vs.all okK = true) (hw : ws.all okW = true) (hx : 1 ≤ x ∧ x ≤ 60) : (callW ws x ++ tkF vs x b r m).all okW = true := by
  rw [List.all_append, Bool.and_eq_true]
  refine ⟨List.all_eq_true.2 (fun v hv => List.all_eq_true.1 hw v (List.mem_filter.1 hv).1), List.all_eq_true.2 ?_⟩
  refine (wf_ok vs x b r m (tkO vs x b r m) (List.all_eq_true.1 hall) hx ?_ vs.length (Nat.le_refl _)).1
  unfold tkO agH
  rw [inT_sub (by omega) (by omega) (by omega) (by omega)]
  simp
set_option maxRecDepth 100000 in
set_option maxHeartbeats 8000000 in
theorem c_take (g B : Nat) (h : HL) (vs : List LK) (ws : List WK) (x b r m : Int) (w : World) (hg : Box w g 34 #[.slice h.a0 vs.length h.c0, .slice h.a1 ws.length h.c1]) (ow : OwnL w B h vs ws) (lg : g < B) (lB : B ≤ w.heap.size) (hok : okLs vs ws = true) (hk : okK ⟨x, b, r, m⟩ = true) (ht : FitH w) (hz : TabZ w) (hg2 : 1 < g) :
    Calls Tryd.prog 68 #[.pointer (some ⟨g, 0, none⟩), .agg #[.int .i64 x, .int .i64 b, .int .i64 r, .int .i64 m]] w fun e w' => e = .returned (.int .i64 (tkC vs ws x b r m)) ∧ (∃ h' : HL, Box w' g 34 #[.slice h'.a0 (tkV vs x b r m).length h'.c0, .slice h'.a1 (tkW vs ws x b r m).length h'.c1] ∧ OwnL w' B h' (tkV vs x b r m) (tkW vs ws x b r m)) ∧ Kep g B w w' := by
  obtain ⟨n0, n1, hall, hwall⟩ := okLs_parts hok
  obtain ⟨bx, bb, br, bm⟩ := okK_bounds hk
  have HALL : Hid (vs.all okK = true) := hall
  have OW : Hid (OwnL w B h vs ws) := ow
  have HT : Hid (FitH w) := ht
  have HZ : Hid (TabZ w) := hz
  have HOKF : Hid ((callW ws x ++ tkF vs x b r m).all okW = true) := tkF_ok vs ws x b r m hall hwall bx
  have hcw : ws.filter (pCw x b r m) = callW ws x := rfl
  have hcl : (callW ws x).length ≤ 100 := Nat.le_trans (List.length_filter_le _ _) n1
  obtain ⟨V, hV⟩ : ∃ V, w.alloc (.cells #[.int .i64 x, .int .i64 b, .int .i64 r, .int .i64 m] 55) = V := ⟨_, rfl⟩
  have hbV : Below w.heap.size w V := by rw [← hV]; exact (Below.refl _ _).alloc (Nat.le_refl _) _
  have BV : Hid (Below w.heap.size w V) := hbV
  have XK : Hid (Box V w.heap.size 55 #[.int .i64 x, .int .i64 b, .int .i64 r, .int .i64 m]) := by unfold Hid; rw [← hV]; exact Box.new _ _ _
  have XG : Hid (Box V g 34 #[.slice h.a0 vs.length h.c0, .slice h.a1 ws.length h.c1]) := hg.belowS hbV
  have lgw : g < w.heap.size := hg.lt
  have CT : Hid (Calls Tryd.prog 86 #[.slice h.a1 ws.length h.c1, .func (Fn.func 94) #[] #[.pointer (some ⟨w.heap.size, 0, none⟩)]] V fun e w' => (∃ ha hc, e = .returned (.slice ha (callW ws x).length hc) ∧ w'.ownsRow V.heap.size 59 2 (.slice ha (callW ws x).length hc) (callW ws x).length (cellsW (callW ws x)) ∧ ∀ b, ob ha = some b → V.heap.size ≤ b) ∧ Below V.heap.size V w') := by
    unfold Hid
    rw [← hcw]
    exact c_thoseCw h.a1 _ h.c1 ws w.heap.size x b r m V (RdW.own (own_below ow.2.1 hbV)) (by omega) XK.out
  obtain ⟨x0, x1⟩ := box2 XG.out
  clear hg ow ht hz hall hwall hok hk hbV hcw
  go_enter Tryd.func68, Tryd.ntmps68
  go_wp2_with fail
  refine CT.out.mono ?_
  rintro e w1 ⟨⟨wa, wc, rfl, o1, l1⟩, hb⟩
  have XG1 := XG.out.belowS hb
  have XK1 := XK.out.belowS hb
  have B1 : Below w.heap.size w w1 := BV.out.trans (hb.mono BV.out.size)
  have s1 : V.heap.size ≤ w1.heap.size := hb.size
  have sV : w.heap.size < V.heap.size := XK.out.lt
  clear hb x0 x1 XG XK CT
  obtain ⟨y0, y1⟩ := box2 XG1
  obtain ⟨t0, t1⟩ := thaw2 XG1
  obtain ⟨w2, hw2⟩ : ∃ W, w1.setCell ⟨g, 1, none⟩ (.slice wa (callW ws x).length wc) = W := ⟨_, rfl⟩
  have i2 : Inn g (g + 1) w1 w2 := by rw [← hw2]; exact set_inn _
  have I2 : Hid (Inn g (g + 1) w w2) := (Inn.of_below B1).trans i2
  have XG2 : Hid (Box w2 g 34 #[.slice h.a0 vs.length h.c0, .slice wa (callW ws x).length wc]) := by unfold Hid; rw [← hw2]; exact XG1.set 1 _
  have XK2 : Hid (Box w2 w.heap.size 55 #[.int .i64 x, .int .i64 b, .int .i64 r, .int .i64 m]) := XK1.innO i2 (.inr (by omega))
  have ra := own_rng OW.out.1
  have O2 : Hid (OwnL w2 B ⟨h.a0, h.c0, wa, wc⟩ vs (callW ws x)) := ⟨own_inn (own_below OW.out.1 B1) i2 (fun k hk => .inr (by have := ra k hk; omega)), (own_inn o1 i2 (fun k hk => .inr (by have := l1 k hk; omega))).down (by omega), fun k hk hk' => by have := ra k hk; have := l1 k hk'; omega⟩
  have bg2 : Below g w w2 := I2.out.below (Nat.le_refl _) (by omega)
  have T2 : Hid (FitH w2) := HT.out.belowB bg2 (by omega)
  have Z2 : Hid (TabZ w2) := HZ.out.belowB bg2 hg2
  have R2 : Hid (RdK w2 h.a0 vs.length vs) := RdK.own O2.out.1
  have sz2 : w1.heap.size ≤ w2.heap.size := i2.size
  obtain ⟨M, hM⟩ : ∃ M, hOf vs b r vs.length = M := ⟨_, rfl⟩
  have CO : Hid (∀ W, Below w2.heap.size w2 W → Calls Tryd.prog 54 #[.slice h.a0 vs.length h.c0, .agg #[.int .i64 x, .int .i64 b, .int .i64 r, .int .i64 m]] W fun e w' => e = .returned (.agg #[.int .u64 ((M 0).toNat : Int), .int .u64 ((M 1).toNat : Int), .int .u64 ((M 2).toNat : Int), .int .u64 ((M 3).toNat : Int), .int .u64 ((M 4).toNat : Int)]) ∧ Below W.heap.size W w') := fun W hW => by
    have := c_holdersOf h.a0 _ h.c0 vs x b r m W (R2.out.below hW) (by omega) HALL.out
    rw [hM] at this
    exact this
  have HM' : Hid (hOf vs b r vs.length = M) := hM
  clear hM
  clear bg2 ra i2 XG1 XK1 B1 o1 l1 BV
  go_upto_region 2 with fail
  obtain ⟨Wz, hWz⟩ : ∃ W, w2.alloc (.cells (cH zeroH) 76) = W := ⟨_, rfl⟩
  have BZ : Hid (Below w2.heap.size w2 Wz) := by unfold Hid; rw [← hWz]; exact (Below.refl _ _).alloc (Nat.le_refl _) _
  have YZ : Hid (Box Wz w2.heap.size 76 (cH zeroH)) := by unfold Hid; rw [← hWz]; exact Box.new _ _ _
  obtain ⟨p0, p1⟩ := box2 (XG2.out.belowS BZ.out)
  have r0 := (XK2.out.belowS BZ.out).cell 0
  have r1 := (XK2.out.belowS BZ.out).cell 1
  have r2 := (XK2.out.belowS BZ.out).cell 2
  have r3 := (XK2.out.belowS BZ.out).cell 3
  simp only [List.getElem?_toArray, List.getElem?_cons_zero, List.getElem?_cons_succ] at r0 r1 r2 r3
  rw [show cH zeroH = #[.int .u64 0, .int .u64 0, .int .u64 0, .int .u64 0, .int .u64 0] from rfl] at hWz
  obtain ⟨z0, z1⟩ := box2 XG2.out
  go_cut [5] (fun s wx => ∃ gb : Nat, s = .pointer (some ⟨gb, 0, none⟩) ∧ Hid (Box wx gb 76 (cH M)) ∧ Hid (w2.heap.size ≤ gb) ∧ Hid (Box wx g 34 #[.slice h.a0 vs.length h.c0, .slice wa (callW ws x).length wc]) ∧ Hid (Box wx w.heap.size 55 #[.int .i64 x, .int .i64 b, .int .i64 r, .int .i64 m]) ∧ Hid (Below w2.heap.size w2 wx))
  have q0 := XK2.out.cell 0
  have q1 := XK2.out.cell 1
  have q2 := XK2.out.cell 2
  have q3 := XK2.out.cell 3
  simp only [List.getElem?_toArray, List.getElem?_cons_zero, List.getElem?_cons_succ] at q0 q1 q2 q3
  case first =>
   go_region_with (first
    | (go_at_call 54
       refine (CO.out _ (below_drewN (Below.refl _ _) 1)).mono ?_
       rintro e w3 ⟨rfl, hb⟩
       have B3 : Hid (Below w2.heap.size w2 w3) := (below_drewN (Below.refl _ _) 1).trans hb)
    | (go_at_call 54
       refine (CO.out _ (below_drewN BZ.out 1)).mono ?_
       rintro e w4 ⟨rfl, hb⟩
       have Y4 : Hid (Box w4 w2.heap.size 76 (cH zeroH)) := Box.belowS (show Box Wz.drew w2.heap.size 76 (cH zeroH) from YZ.out) hb
       have B4 : Hid (Below w2.heap.size w2 w4) := (below_drewN BZ.out 1).trans (hb.mono BZ.out.size)
       clear hb
       have h0 := Y4.out.cell 0
       have h1 := Y4.out.cell 1
       have h2 := Y4.out.cell 2
       have h3 := Y4.out.cell 3
       have h4 := Y4.out.cell 4
       unfold cH at h0 h1 h2 h3 h4
       simp only [List.getElem?_toArray, List.getElem?_cons_zero, List.getElem?_cons_succ] at h0 h1 h2 h3 h4
       have u0 := Y4.out.thaw 0
       have u1 := Y4.out.thaw 1
       have u2 := Y4.out.thaw 2
       have u3 := Y4.out.thaw 3
       have u4 := Y4.out.thaw 4
       obtain ⟨W6, hW6⟩ : ∃ W, put5 w4 w2.heap.size M = W := ⟨_, rfl⟩
       have P6 : Hid (Box W6 w2.heap.size 76 (cH M)) := by unfold Hid; rw [← hW6]; exact put5_box Y4.out M
       have B6 : Hid (Below w2.heap.size w2 W6) := by unfold Hid; rw [← hW6]; exact put5_below B4.out (Nat.le_refl _) M
       unfold put5 at hW6))
   all_goals (go_wp2_with fail; go_meet)
   all_goals first
    | (have Bf : Below w2.heap.size w2 (w3.alloc (.cells (cH M) 76)) := B3.out.alloc B3.out.size _
       exact ⟨w3.heap.size, rfl, Box.new _ _ _, B3.out.size, XG2.out.belowS Bf, XK2.out.belowS Bf, Bf⟩)
    | (try rw [hW6]
       exact ⟨w2.heap.size, rfl, P6, Nat.le_refl w2.heap.size, XG2.out.belowS B6.out, XK2.out.belowS B6.out, B6⟩)
  case rest =>
   rename World => w3
   obtain ⟨gb, rfl, HB, HGB, XG3, XK3, B3⟩ := hcut
   have lgb : w2.heap.size ≤ gb := HGB.out
   have HAN : Hid (inT (haveS M m) x = vs.any (hasK x b r m)) := by unfold Hid; rw [← HM'.out]; exact have_any vs x b r m bx HALL.out
   have HAG : Hid (tkO vs x b r m = agH M x m) := by unfold Hid tkO; rw [HM'.out]
   have O3 : Hid (OwnL w3 B ⟨h.a0, h.c0, wa, wc⟩ vs (callW ws x)) := O2.out.below B3.out
   have T3 : Hid (FitH w3) := T2.out.below B3.out
   have Z3 : Hid (TabZ w3) := Z2.out.below B3.out
   have I3 : Hid (Inn g (g + 1) w w3) := I2.out.trans (Inn.of_below B3.out)
   have CH : Hid (∀ W : World, Calls Tryd.prog 55 #[.agg #[.int .u64 ((M 0).toNat : Int), .int .u64 ((M 1).toNat : Int), .int .u64 ((M 2).toNat : Int), .int .u64 ((M 3).toNat : Int), .int .u64 ((M 4).toNat : Int)], .agg #[.int .i64 x, .int .i64 b, .int .i64 r, .int .i64 m]] W fun e w' => e = .returned (.bool (inT (haveS M m) x)) ∧ Below W.heap.size W w') := fun W => c_have M x b r m W bm bx
   have CA : Hid (∀ W : World, FitH W → Calls Tryd.prog 77 #[.agg #[.int .u64 ((M 0).toNat : Int), .int .u64 ((M 1).toNat : Int), .int .u64 ((M 2).toNat : Int), .int .u64 ((M 3).toNat : Int), .int .u64 ((M 4).toNat : Int)], .agg #[.int .i64 x, .int .i64 b, .int .i64 r, .int .i64 m]] W fun e w' => e = .returned (.int .u64 ((agH M x m).toNat : Int)) ∧ Below W.heap.size W w') := fun W hW => c_against M x b r m W hW bm bx
   obtain ⟨p, hp⟩ : ∃ p, inT (haveS M m) x = p := ⟨_, rfl⟩
   obtain ⟨o, ho⟩ : ∃ o, agH M x m = o := ⟨_, rfl⟩
   rw [hp] at CH HAN
   rw [ho] at CA HAG
   clear hp ho z0 z1 p0 p1 r0 r1 r2 r3 BZ YZ hWz B3 CO O2 T2 Z2 R2 I2 XG2 XK2 hw2 HM' y0 y1 t0 t1
   have h0 := HB.out.cell 0
   have h1 := HB.out.cell 1
   have h2 := HB.out.cell 2
   have h3 := HB.out.cell 3
   have h4 := HB.out.cell 4
   unfold cH at h0 h1 h2 h3 h4
   simp only [List.getElem?_toArray, List.getElem?_cons_zero, List.getElem?_cons_succ] at h0 h1 h2 h3 h4
   have q0 := XK3.out.cell 0
   have q1 := XK3.out.cell 1
   have q2 := XK3.out.cell 2
   have q3 := XK3.out.cell 3
   simp only [List.getElem?_toArray, List.getElem?_cons_zero, List.getElem?_cons_succ] at q0 q1 q2 q3
   go_wp2_with fail
   refine (CH.out _).mono ?_
   rintro e w4 ⟨rfl, hb⟩
   have HB4 : Hid (Box w4 gb 76 (cH M)) := HB.out.belowS hb
   have XG4 : Hid (Box w4 g 34 #[.slice h.a0 vs.length h.c0, .slice wa (callW ws x).length wc]) := XG3.out.belowS hb
   have XK4 : Hid (Box w4 w.heap.size 55 #[.int .i64 x, .int .i64 b, .int .i64 r, .int .i64 m]) := XK3.out.belowS hb
   have O4 : Hid (OwnL w4 B ⟨h.a0, h.c0, wa, wc⟩ vs (callW ws x)) := O3.out.below hb
   have T4 : Hid (FitH w4) := T3.out.below hb
   have Z4 : Hid (TabZ w4) := Z3.out.below hb
   have I4 : Hid (Inn g (g + 1) w w4) := I3.out.trans (Inn.of_below hb)
   clear hb h0 h1 h2 h3 h4 q0 q1 q2 q3 HB XG3 XK3 O3 T3 Z3 I3 CH
   cases p
   case true =>
    have E : Hid (_ ∧ _ ∧ _) := tk_have (ws := ws) HAN.out.symm
    go_wp2
    go_ret
    exact ⟨ret_int E.out.2.2.symm, ⟨⟨h.a0, h.c0, wa, wc⟩, by rw [E.out.1, E.out.2.1]; exact XG4.out, by rw [E.out.1, E.out.2.1]; exact O4.out⟩, Kep.of_inn I4.out (by omega) lB⟩
   have h0 := HB4.out.cell 0
   have h1 := HB4.out.cell 1
   have h2 := HB4.out.cell 2
   have h3 := HB4.out.cell 3
   have h4 := HB4.out.cell 4
   unfold cH at h0 h1 h2 h3 h4
   simp only [List.getElem?_toArray, List.getElem?_cons_zero, List.getElem?_cons_succ] at h0 h1 h2 h3 h4
   have q0 := XK4.out.cell 0
   have q1 := XK4.out.cell 1
   have q2 := XK4.out.cell 2
   have q3 := XK4.out.cell 3
   simp only [List.getElem?_toArray, List.getElem?_cons_zero, List.getElem?_cons_succ] at q0 q1 q2 q3
   go_wp2_with fail
   refine (CA.out _ T4.out).mono ?_
   rintro e w5 ⟨rfl, hb⟩
   have XG5 : Hid (Box w5 g 34 #[.slice h.a0 vs.length h.c0, .slice wa (callW ws x).length wc]) := XG4.out.belowS hb
   have XK5 : Hid (Box w5 w.heap.size 55 #[.int .i64 x, .int .i64 b, .int .i64 r, .int .i64 m]) := XK4.out.belowS hb
   have O5 : Hid (OwnL w5 B ⟨h.a0, h.c0, wa, wc⟩ vs (callW ws x)) := O4.out.below hb
   have T5 : Hid (FitH w5) := T4.out.below hb
   have Z5 : Hid (TabZ w5) := Z4.out.below hb
   have I5 : Hid (Inn g (g + 1) w w5) := I4.out.trans (Inn.of_below hb)
   have sz5 : w.heap.size ≤ w5.heap.size := I5.out.size
   clear hb h0 h1 h2 h3 h4 q0 q1 q2 q3 HB4 XG4 XK4 O4 T4 Z4 I4 CA
   have q0 := XK5.out.cell 0
   have q1 := XK5.out.cell 1
   have q2 := XK5.out.cell 2
   have q3 := XK5.out.cell 3
   simp only [List.getElem?_toArray, List.getElem?_cons_zero, List.getElem?_cons_succ] at q0 q1 q2 q3
   obtain ⟨z0, z1⟩ := box2 XG5.out
   by_cases ho : o = 0#64
   case neg =>
    have co : ((o.toNat : Int) != 0) = true := by
      rw [bne_iff_ne]; exact fun e => ho (BitVec.eq_of_toNat_eq (by simpa using e))
    have E : Hid (_ ∧ _ ∧ _) := tk_wait (ws := ws) HAN.out.symm (by rw [HAG.out]; exact ho)
    have CW : Hid (Calls Tryd.prog 95 #[.pointer (some ⟨g, 0, none⟩), .agg #[.int .i64 x, .int .i64 b, .int .i64 r, .int .i64 m], .int .u64 (o.toNat : Int)] w5 fun e w' => e = .returned (.int .i64 (awC (callW ws x) (wf vs x b r m o vs.length).1 x)) ∧ (∃ h' : HL, Box w' g 34 #[.slice h'.a0 (vs).length h'.c0, .slice h'.a1 (awW (callW ws x) (wf vs x b r m o vs.length).1 x).length h'.c1] ∧ OwnL w' B h' vs (awW (callW ws x) (wf vs x b r m o vs.length).1 x)) ∧ Inn g (g + 1) w5 w') := c_await g B ⟨h.a0, h.c0, wa, wc⟩ vs (callW ws x) x b r m o w5 XG5.out O5.out lg (by omega) n0 hcl HALL.out bx bm (by have := HOKF.out; unfold tkF at this; rw [HAG.out] at this; exact this) T5.out Z5.out
    have E' : Hid (tkF vs x b r m = (wf vs x b r m o vs.length).1) := by unfold Hid tkF; rw [HAG.out]
    go_wp2_with fail
    refine CW.out.mono ?_
    rintro e w6 ⟨rfl, ⟨h6, X6, O6⟩, i6⟩
    have X6' : Hid (Box w6 g 34 _) := X6
    have O6' : Hid (OwnL w6 B h6 vs _) := O6
    have I6 : Hid (Inn g (g + 1) w w6) := I5.out.trans i6
    clear X6 O6 i6
    go_wp2
    go_ret
    exact ⟨ret_int (by rw [E.out.2.2, E'.out]), ⟨h6, by rw [E.out.1, E.out.2.1, E'.out]; exact X6'.out, by rw [E.out.1, E.out.2.1, E'.out]; exact O6'.out⟩, Kep.of_inn I6.out (by omega) lB⟩
   have co : ((o.toNat : Int) != 0) = false := by rw [ho]; rfl
   by_cases hl : vs.length = 60
   case pos =>
    have cl : ((vs.length : Int) == 60) = true := by rw [hl]; rfl
    have E : Hid (_ ∧ _ ∧ _) := tk_full (ws := ws) HAN.out.symm (by rw [HAG.out]; exact ho) hl
    clear hl ho
    go_wp2
    go_ret
    exact ⟨ret_int E.out.2.2.symm, ⟨⟨h.a0, h.c0, wa, wc⟩, by rw [E.out.1, E.out.2.1]; exact XG5.out, by rw [E.out.1, E.out.2.1]; exact O5.out⟩, Kep.of_inn I5.out (by omega) lB⟩
   have cl : ((vs.length : Int) == 60) = false := by
     rw [beq_eq_false_iff_ne]; omega
   have E : Hid (_ ∧ _ ∧ _) := tk_got (ws := ws) HAN.out.symm (by rw [HAG.out]; exact ho) hl
   clear hl ho
   obtain ⟨i0, hi, hz0, hz1, hz2⟩ := info_parts infoK
   obtain ⟨w6, hw6⟩ : ∃ W, w5.alloc (.cells #[.int .i64 x, .int .i64 b, .int .i64 r, .int .i64 m] 55) = W := ⟨_, rfl⟩
   have hb6 : Below w5.heap.size w5 w6 := by rw [← hw6]; exact (Below.refl _ _).alloc (Nat.le_refl _) _
   have K6 : Hid (Box w6 w5.heap.size 55 #[.int .i64 x, .int .i64 b, .int .i64 r, .int .i64 m]) := by unfold Hid; rw [← hw6]; exact Box.new _ _ _
   have O6 : Hid (OwnL w6 B ⟨h.a0, h.c0, wa, wc⟩ vs (callW ws x)) := O5.out.below hb6
   have XG6 : Hid (Box w6 g 34 #[.slice h.a0 vs.length h.c0, .slice wa (callW ws x).length wc]) := XG5.out.belowS hb6
   have I6 : Hid (Inn g (g + 1) w w6) := I5.out.trans (Inn.of_below hb6)
   have l6 : w5.heap.size < w6.heap.size := K6.out.lt
   have LB6 : Hid (B ≤ w6.heap.size) := by unfold Hid; omega
   have RA : Hid (∀ k, ob h.a0 = some k → B ≤ k ∧ k < w6.heap.size) := own_rng O6.out.1
   have RB : Hid (∀ k, ob wa = some k → B ≤ k ∧ k < w6.heap.size) := own_rng O6.out.2.1
   obtain ⟨g0, g1⟩ := box2 XG6.out
   clear hb6 O5 XG5 I5 T5 Z5
   go_wp2_with fail
   go_region_law (refine step_append_lies _ (by rfl) (.tmp 44) (.tmp 46) 31 (by rfl) B 55 i0 (.agg #[.int .i64 0, .int .i64 0, .int .i64 0, .int .i64 0]) 4 32 Tryd.underlying31 hi hz0 hz1 hz2 rfl (by omega) (.slice h.a0 vs.length h.c0) vs.length (cellsK vs) (by rfl) (by exact O6.out.1) ⟨w5.heap.size, 0, none⟩ 1 1 (cK ⟨x, b, r, m⟩) (by rfl) (by rfl) (by exact box_newsK K6.out _ rfl) (cK_one _) (by omega) (by unfold maxLen; omega) (by omega) (by exact LB6.out) _ rfl ?_; intro g2 c2 w7 o2 hg2 ha2 hl2; have G7 : Box w7 g 34 #[.slice h.a0 vs.length h.c0, .slice wa (callW ws x).length wc] := Box.grown (show Box w6.drew g 34 #[.slice h.a0 vs.length h.c0, .slice wa (callW ws x).length wc] from XG6.out) hg2 (fun e => by rw [ob_slice] at e; have := RA.out g e; omega); have th7 := G7.thaw 0; obtain ⟨z0', z1'⟩ := box2 G7)
   all_goals
     rw [ob_slice] at hg2 ha2
     have Q7 := own_same (w' := w7) (show w6.drew.ownsRow B 59 2 (.slice wa (callW ws x).length wc) (callW ws x).length (cellsW (callW ws x)) from O6.out.2.1) (fun k hk => hg2.block k (by rw [ob_slice] at hk; exact (RB.out k hk).2) (fun e => by rw [ob_slice] at hk; exact O6.out.2.2 k e.symm hk))
     have B7 : Below g w w7 := (Below.drew (I6.out.below (Nat.le_refl g) (by omega))).grown hg2 (show g ≤ w6.heap.size by omega) (fun j hj => by have := RA.out j hj; omega)
     have K7 : ∀ j, g < j → j < B → w7.heap[j]? = w.heap[j]? := fun j h1 h2 => (hg2.block j (show j < w6.heap.size by have := LB6.out; omega) (fun e => by have := RA.out j e.symm; omega)).trans (I6.out.block j (by omega) (.inr h1))
     have lg2 : B ≤ g2 ∧ ob wa ≠ some g2 := by
       rcases ha2 with e | e
       · exact ⟨(RA.out g2 e).1, O6.out.2.2 g2 e⟩
       · have e' : g2 = w6.heap.size := e
         exact ⟨by have := LB6.out; omega, fun hh => by have := RB.out g2 hh; omega⟩
     obtain ⟨w8, hw8⟩ : ∃ W, w7.setCell ⟨g, 0, none⟩ (.slice (some ⟨g2, 0, none⟩) (vs.length + 1) c2) = W := ⟨_, rfl⟩
     have i8 : Inn g (g + 1) w7 w8 := by rw [← hw8]; exact set_inn _
     have X8 : Hid (Box w8 g 34 #[.slice (some ⟨g2, 0, none⟩) (vs ++ [(⟨x, b, r, m⟩ : LK)]).length c2, .slice wa (callW ws x).length wc]) := by
       unfold Hid; rw [← hw8, List.length_append, List.length_singleton]; exact G7.set 0 _
     have o2' : w7.ownsRow B 55 4 (.slice (some ⟨g2, 0, none⟩) (vs ++ [(⟨x, b, r, m⟩ : LK)]).length c2) (vs ++ [(⟨x, b, r, m⟩ : LK)]).length (cellsK (vs ++ [(⟨x, b, r, m⟩ : LK)])) := by
       rw [List.length_append, List.length_singleton, cellsK_append]; exact o2
     have O8 : Hid (OwnL w8 B ⟨some ⟨g2, 0, none⟩, c2, wa, wc⟩ (vs ++ [⟨x, b, r, m⟩]) (callW ws x)) := ⟨own_inn o2' i8 (fun k hk => by have e' : g2 = k := Option.some.inj hk; omega), own_inn Q7 i8 (fun k hk => by have := RB.out k hk; omega), fun k hk => by have e' : g2 = k := Option.some.inj hk; rw [← e']; exact lg2.2⟩
     have K8 : Hid (Kep g B w w8) := by
       refine ⟨by rw [← hw8]; exact B7.setCell (Nat.le_refl g) _, fun j h1 h2 => ?_⟩
       rw [← hw8]
       exact (Below.heap_setCell _ _ _ _ (by show j ≠ g; omega)).trans (K7 j h1 h2)
     clear Q7 B7 K7 lg2 i8 o2 o2' hg2 ha2 hl2 G7 th7 z0' z1'
     subst hw8
     go_wp2
     go_ret
     exact ⟨ret_int E.out.2.2.symm, ⟨⟨some ⟨g2, 0, none⟩, c2, wa, wc⟩, by rw [E.out.1, E.out.2.1]; exact X8.out, by rw [E.out.1, E.out.2.1]; exact O8.out⟩, K8.out⟩

end Go.Proofs.YtmjacoocnkcilaaDoor
