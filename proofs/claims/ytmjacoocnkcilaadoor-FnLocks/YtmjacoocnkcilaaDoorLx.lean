/-
  HoldsLock on both sides.
-/
import Derived.Test.YtmjacoocnkcilaaDoorLv
import Derived.Deep.QuietTactic
import Derived.Deep.RegionHeld3
namespace Go.Proofs.YtmjacoocnkcilaaDoor
open Go Go.RowKit
attribute [local go_sem ↓] Go.wp_at_zero Go.wp_at_succ

def hlB (vs : List LK) (ws : List WK) (x b r m : Int) : Bool := okLs vs ws && okK ⟨x, b, r, m⟩ && vs.any (hasK x b r m)
def hlC (vs : List LK) (ws : List WK) (x b r m : Int) : Int := if okLs vs ws = false then 1 else if okK ⟨x, b, r, m⟩ = false then 4 else 0
theorem hl1 {vs : List LK} {ws : List WK} {x b r m : Int} (h : okLs vs ws = false) : hlB vs ws x b r m = false ∧ hlC vs ws x b r m = 1 := by unfold hlB hlC; rw [h]; exact ⟨rfl, rfl⟩
theorem hl4 {vs : List LK} {ws : List WK} {x b r m : Int} (h : okLs vs ws = true) (h2 : okK ⟨x, b, r, m⟩ = false) : hlB vs ws x b r m = false ∧ hlC vs ws x b r m = 4 := by unfold hlB hlC; rw [h, h2]; exact ⟨rfl, rfl⟩
theorem hl0 {vs : List LK} {ws : List WK} {x b r m : Int} (h : okLs vs ws = true) (h2 : okK ⟨x, b, r, m⟩ = true) : hlB vs ws x b r m = vs.any (hasK x b r m) ∧ hlC vs ws x b r m = 0 := by unfold hlB hlC; rw [h, h2]; exact ⟨rfl, rfl⟩
theorem okLs_parts {vs : List LK} {ws : List WK} (h : okLs vs ws = true) : vs.length ≤ 60 ∧ ws.length ≤ 100 ∧ vs.all okK = true ∧ ws.all okW = true := by
  unfold okLs at h
  simp only [Bool.and_eq_true, decide_eq_true_eq] at h
  exact ⟨h.1.1.1.1, h.1.1.1.2, h.1.1.2, h.2⟩
set_option maxRecDepth 100000 in
set_option maxHeartbeats 8000000 in
theorem c_specHL (h : HL) (vs : List LK) (ws : List WK) (x b r m : Int) (w : World) (rd : RdL w h vs ws) (f0 : vs.length ≤ 1048576) (f1 : ws.length ≤ 1048576) :
    Calls Tryd.prog 20 #[.agg #[.slice h.a0 vs.length h.c0, .slice h.a1 ws.length h.c1], .int .i64 x, .int .i64 b, .int .i64 r, .int .i64 m] w fun e w' => e = .returned (.tuple #[.bool (hlB vs ws x b r m), .int .i64 (hlC vs ws x b r m)]) ∧ Below w.heap.size w w' := by
  have R : Hid (RdL w h vs ws) := rd
  clear rd
  obtain ⟨V, hV⟩ : ∃ V, w.alloc (.cells #[.slice h.a0 vs.length h.c0, .slice h.a1 ws.length h.c1] 34) = V := ⟨_, rfl⟩
  have B : Hid (Below w.heap.size w V) := by unfold Hid; rw [← hV]; exact (Below.refl _ _).alloc (Nat.le_refl _) _
  have X : Hid (Box V w.heap.size 34 #[.slice h.a0 vs.length h.c0, .slice h.a1 ws.length h.c1]) := by unfold Hid; rw [← hV]; exact Box.new _ _ _
  obtain ⟨x0, x1⟩ := box2 X.out
  obtain ⟨p, hp⟩ : ∃ p, okLs vs ws = p := ⟨_, rfl⟩
  obtain ⟨q, hq⟩ : ∃ q, okK ⟨x, b, r, m⟩ = q := ⟨_, rfl⟩
  have C : Hid (Calls Tryd.prog 16 #[.agg #[.slice h.a0 vs.length h.c0, .slice h.a1 ws.length h.c1]] V fun e w' => e = .returned (.bool p) ∧ Below V.heap.size V w') := by unfold Hid; rw [← hp]; exact c_specLO h vs ws V (R.out.below B.out) f0 f1
  have CK : Hid (∀ W : World, Calls Tryd.prog 45 #[.int .i64 x, .int .i64 b, .int .i64 r, .int .i64 m] W fun e w' => e = .returned (.bool q) ∧ w' = W) := fun W => by rw [← hq]; exact c_ask x b r m W
  go_enter Tryd.func20, Tryd.ntmps20
  go_wp2_with fail
  refine C.out.mono ?_
  rintro e w1 ⟨rfl, hb⟩
  have B1 : Hid (Below w.heap.size w w1) := B.out.trans (hb.mono B.out.size)
  have X1 := X.out.belowS hb
  clear hb x0 x1 hV C
  obtain ⟨x0, x1⟩ := box2 X1
  clear X1
  cases p
  · have E : Hid (_ ∧ _) := hl1 (x := x) (b := b) (r := r) (m := m) hp
    go_wp2
    go_ret2
    exact ⟨by rw [E.out.1, E.out.2]; rfl, B1.out⟩
  go_wp2_with fail
  refine (CK.out w1).mono ?_
  rintro e wq ⟨rfl, hwq⟩; rw [hwq]; clear hwq
  cases q
  · have E : Hid (_ ∧ _) := hl4 hp hq
    clear hp hq
    go_wp2
    go_ret2
    exact ⟨by rw [E.out.1, E.out.2]; rfl, B1.out⟩
  have E : Hid (_ ∧ _) := hl0 hp hq
  clear hp hq
  go_wp2_with fail
  refine (c_l06Holds h vs ws x b r m w1 (R.out.below B1.out) f0).mono ?_
  rintro e w2 ⟨rfl, hb⟩
  have B2 : Hid (Below w.heap.size w w2) := B1.out.trans (hb.mono B1.out.size)
  clear hb
  go_wp2
  go_ret2
  exact ⟨by rw [E.out.1, E.out.2]; rfl, B2.out⟩
set_option maxRecDepth 100000 in
set_option maxHeartbeats 8000000 in
theorem c_implHL (h : HL) (vs : List LK) (ws : List WK) (x b r m : Int) (w : World) (rd : RdL w h vs ws) (f0 : vs.length ≤ 1048576) (f1 : ws.length ≤ 1048576) (ht : FitH w) :
    Calls Tryd.prog 21 #[.agg #[.slice h.a0 vs.length h.c0, .slice h.a1 ws.length h.c1], .int .i64 x, .int .i64 b, .int .i64 r, .int .i64 m] w fun e w' => e = .returned (.tuple #[.bool (hlB vs ws x b r m), .int .i64 (hlC vs ws x b r m)]) ∧ Below w.heap.size w w' := by
  have R : Hid (RdL w h vs ws) := rd
  clear rd
  obtain ⟨V, hV⟩ : ∃ V, w.alloc (.cells #[.slice h.a0 vs.length h.c0, .slice h.a1 ws.length h.c1] 34) = V := ⟨_, rfl⟩
  have B : Hid (Below w.heap.size w V) := by unfold Hid; rw [← hV]; exact (Below.refl _ _).alloc (Nat.le_refl _) _
  have X : Hid (Box V w.heap.size 34 #[.slice h.a0 vs.length h.c0, .slice h.a1 ws.length h.c1]) := by unfold Hid; rw [← hV]; exact Box.new _ _ _
  obtain ⟨x0, x1⟩ := box2 X.out
  obtain ⟨p, hp⟩ : ∃ p, okLs vs ws = p := ⟨_, rfl⟩
  obtain ⟨q, hq⟩ : ∃ q, okK ⟨x, b, r, m⟩ = q := ⟨_, rfl⟩
  have C : Hid (Calls Tryd.prog 18 #[.agg #[.slice h.a0 vs.length h.c0, .slice h.a1 ws.length h.c1]] V fun e w' => e = .returned (.bool p) ∧ Below V.heap.size V w') := by unfold Hid; rw [← hp]; exact c_implLO h vs ws V (R.out.below B.out) f0 f1 (ht.below B.out)
  have CK : Hid (∀ W : World, Calls Tryd.prog 53 #[.agg #[.int .i64 x, .int .i64 b, .int .i64 r, .int .i64 m]] W fun e w' => e = .returned (.bool q) ∧ Below W.heap.size W w') := fun W => by rw [← hq]; exact c_isLock x b r m W
  go_enter Tryd.func21, Tryd.ntmps21
  go_wp2_with fail
  refine C.out.mono ?_
  rintro e w1 ⟨rfl, hb⟩
  have B1 : Hid (Below w.heap.size w w1) := B.out.trans (hb.mono B.out.size)
  have X1 : Hid (Box w1 w.heap.size 34 #[.slice h.a0 vs.length h.c0, .slice h.a1 ws.length h.c1]) := X.out.belowS hb
  clear hb x0 x1 hV C
  cases p
  · have E : Hid (_ ∧ _) := hl1 (x := x) (b := b) (r := r) (m := m) hp
    go_wp2
    go_ret2
    exact ⟨by rw [E.out.1, E.out.2]; rfl, B1.out⟩
  obtain ⟨w2, hw2⟩ : ∃ W, w1.alloc (.cells #[.int .i64 x, .int .i64 b, .int .i64 r, .int .i64 m] 55) = W := ⟨_, rfl⟩
  have hb2 : Below w1.heap.size w1 w2 := by rw [← hw2]; exact (Below.refl _ _).alloc (Nat.le_refl _) _
  have K2 : Hid (Box w2 w1.heap.size 55 #[.int .i64 x, .int .i64 b, .int .i64 r, .int .i64 m]) := by unfold Hid; rw [← hw2]; exact Box.new _ _ _
  have B2 : Hid (Below w.heap.size w w2) := B1.out.trans (hb2.mono B1.out.size)
  have X2 : Hid (Box w2 w.heap.size 34 #[.slice h.a0 vs.length h.c0, .slice h.a1 ws.length h.c1]) := X1.out.belowS hb2
  clear hb2 X1 B1
  have q0 := K2.out.cell 0
  have q1 := K2.out.cell 1
  have q2 := K2.out.cell 2
  have q3 := K2.out.cell 3
  simp only [List.getElem?_toArray, List.getElem?_cons_zero, List.getElem?_cons_succ] at q0 q1 q2 q3
  go_wp2_with fail
  refine (CK.out w2).mono ?_
  rintro e w3 ⟨rfl, hb⟩
  have B3 : Hid (Below w.heap.size w w3) := B2.out.trans (hb.mono B2.out.size)
  have X3 : Hid (Box w3 w.heap.size 34 #[.slice h.a0 vs.length h.c0, .slice h.a1 ws.length h.c1]) := X2.out.belowS hb
  have K3 : Hid (Box w3 w1.heap.size 55 #[.int .i64 x, .int .i64 b, .int .i64 r, .int .i64 m]) := K2.out.belowS hb
  clear hb q0 q1 q2 q3 X2 K2 B2 CK hw2
  cases q
  · have E : Hid (_ ∧ _) := hl4 hp hq
    clear hp hq
    go_wp2
    go_ret2
    exact ⟨by rw [E.out.1, E.out.2]; rfl, B3.out⟩
  have E : Hid (_ ∧ _) := hl0 hp hq
  have HALL : Hid (vs.all okK = true) := (okLs_parts hp).2.2.1
  obtain ⟨bx, _, _, bm⟩ := okK_bounds hq
  have HAN : Hid (inT (haveS (hOf vs b r vs.length) m) x = vs.any (hasK x b r m)) := have_any vs x b r m bx HALL.out
  clear hp hq
  obtain ⟨x0, x1⟩ := box2 X3.out
  have q0 := K3.out.cell 0
  have q1 := K3.out.cell 1
  have q2 := K3.out.cell 2
  have q3 := K3.out.cell 3
  simp only [List.getElem?_toArray, List.getElem?_cons_zero, List.getElem?_cons_succ] at q0 q1 q2 q3
  have CO : Hid (∀ W, Below w.heap.size w W → Calls Tryd.prog 54 #[.slice h.a0 vs.length h.c0, .agg #[.int .i64 x, .int .i64 b, .int .i64 r, .int .i64 m]] W fun e w' => e = .returned (.agg (cH (hOf vs b r vs.length))) ∧ Below W.heap.size W w') := fun W hW => c_holdersOf h.a0 _ h.c0 vs x b r m W (R.out.1.below hW) f0 HALL.out
  have CH : Hid (∀ W : World, Calls Tryd.prog 55 #[.agg (cH (hOf vs b r vs.length)), .agg #[.int .i64 x, .int .i64 b, .int .i64 r, .int .i64 m]] W fun e w' => e = .returned (.bool (inT (haveS (hOf vs b r vs.length) m) x)) ∧ Below W.heap.size W w') := fun W => c_have _ x b r m W bm bx
  go_wp2_with fail
  go_region_held3 (fun z => z.cell? ⟨w.heap.size, 0, none⟩ = some (.slice h.a0 vs.length h.c0) ∧ z.cell? ⟨w1.heap.size, 0, none⟩ = some (.int .i64 x) ∧ z.cell? ⟨w1.heap.size, 1, none⟩ = some (.int .i64 b) ∧ z.cell? ⟨w1.heap.size, 2, none⟩ = some (.int .i64 r) ∧ z.cell? ⟨w1.heap.size, 3, none⟩ = some (.int .i64 m))
    (first | go_keep | exact ⟨far6 hb7 x0, far6 hb7 q0, far6 hb7 q1, far6 hb7 q2, far6 hb7 q3⟩ | exact ⟨far6 hb8 (far6 hb7 x0), far6 hb8 (far6 hb7 q0), far6 hb8 (far6 hb7 q1), far6 hb8 (far6 hb7 q2), far6 hb8 (far6 hb7 q3)⟩)
    (first | (go_at_call 54; refine (CO.out _ (below_drewN B3.out _)).mono ?_; rintro e w7 ⟨rfl, hb7⟩)
           | (go_at_call 55; refine (CH.out _).mono ?_; rintro e w8 ⟨rfl, hb8⟩))
  all_goals
    have B8 : Below w.heap.size w w8 := ((below_drewN B3.out _).trans (hb7.mono B3.out.size)).trans (hb8.mono (Nat.le_trans B3.out.size hb7.size))
    clear hb7 hb8
    go_wp2
    go_ret2
    exact ⟨by rw [E.out.1, E.out.2, ← HAN.out]; rfl, B8⟩

end Go.Proofs.YtmjacoocnkcilaaDoor
