/-
  The methods of a run.
-/
import Derived.Test.YtcgcaomaofppiaaDoorDb
import Derived.Test.YtcgcaomaofppiaaDoorYq
import Derived.Deep.RegionHeld3
import Derived.Deep.RegionLaw
namespace Go.Proofs.YtcgcaomaofppiaaDoor
open Go Go.RowKit
attribute [local go_sem ↓] Go.wp_at_zero Go.wp_at_succ

set_option linter.unusedVariables false
set_option linter.unusedSimpArgs false
set_option maxRecDepth 100000 in
set_option maxHeartbeats 4000000 in
theorem c_mpush (c B : Nat) (i : Int) (u v : VV) (S : List SV) (nx : Int) (a : Option Addr) (cap : Nat) (w : World) (h : CRun w c B i u v S nx a cap) (hcB : c < B) (hB : B ≤ w.heap.size) (x : IN) (hs : S.length ≤ 1000) :
    Calls Tryd.prog 49 #[.pointer (some ⟨c, 0, none⟩), .agg #[.int .i64 x.o, .int .i64 x.p, .int .i64 x.k, .int .i64 x.n, .string x.t]] w fun e w' => e = .returned (.int .i64 (0)) ∧ (∃ a' cap', CRun w' c B i u v (S ++ [⟨x.k, x.n, x.t⟩]) (nx) a' cap') ∧ LowB c B w w' := by
  have CP : Hid (∀ W S a cap (y : SV), CRun W c B i u v S nx a cap → S.length ≤ 1000 → B ≤ W.heap.size → Calls Tryd.prog 74 #[.pointer (some ⟨c, 0, none⟩), .agg #[.int .i64 y.k, .int .i64 y.n, .string y.t]] W fun e w' => (∃ r, e = .returned r) ∧ (∃ a' cap', CRun w' c B i u v (S ++ [y]) nx a' cap') ∧ LowB c B W w') := fun W S a cap y h hs hW => c_put c B i u v S nx a cap W h hcB hW y hs
  obtain ⟨V, hV⟩ : ∃ V, w.alloc (.cells #[.int .i64 x.o, .int .i64 x.p, .int .i64 x.k, .int .i64 x.n, .string x.t] 59) = V := ⟨_, rfl⟩
  have bV : Below w.heap.size w V := by rw [← hV]; exact (Below.refl _ _).alloc (Nat.le_refl _) _
  have AV : Hid (Box V w.heap.size 59 #[.int .i64 x.o, .int .i64 x.p, .int .i64 x.k, .int .i64 x.n, .string x.t]) := by unfold Hid; rw [← hV]; exact Box.new _ _ _
  have HV : Hid (CRun V c B i u v S nx a cap) := h.below bV
  have LV : Hid (LowB c B w V) := LowB.of bV hB
  have sV : w.heap.size < V.heap.size := AV.out.lt
  obtain ⟨p0, p1, p2, p3, p4⟩ := box5 AV.out
  clear h bV
  have C := CP.out V S a cap ⟨x.k, x.n, x.t⟩ HV.out hs (by omega)
  dsimp only at C
  clear CP
  go_enter Tryd.func49, Tryd.ntmps49
  go_wp2_with fail
  refine C.mono ?_
  rintro e w1 ⟨⟨r, rfl⟩, hc1, hl1⟩
  have H1 : Hid (∃ a' cap', CRun w1 c B i u v (S ++ [⟨x.k, x.n, x.t⟩]) nx a' cap') := hc1
  have L1 : Hid (LowB c B w w1) := LV.out.trans hl1
  clear C hc1 hl1
  go_wp2
  go_ret
  exact ⟨rfl, H1.out, L1.out⟩
set_option maxRecDepth 100000 in
set_option maxHeartbeats 4000000 in
theorem c_mcol (c B : Nat) (i : Int) (u v : VV) (S : List SV) (nx : Int) (a : Option Addr) (cap : Nat) (w : World) (h : CRun w c B i u v S nx a cap) (hcB : c < B) (hB : B ≤ w.heap.size) (x : IN) (hs : S.length ≤ 1000) (hp : inB x.p 0 2 = true) :
    Calls Tryd.prog 50 #[.pointer (some ⟨c, 0, none⟩), .agg #[.int .i64 x.o, .int .i64 x.p, .int .i64 x.k, .int .i64 x.n, .string x.t]] w fun e w' => e = .returned (.int .i64 (0)) ∧ (∃ a' cap', CRun w' c B i u v (S ++ [evS (colE x.p i u v)]) (nx) a' cap') ∧ LowB c B w w' := by
  have CP : Hid (∀ W S a cap (y : SV), CRun W c B i u v S nx a cap → S.length ≤ 1000 → B ≤ W.heap.size → Calls Tryd.prog 74 #[.pointer (some ⟨c, 0, none⟩), .agg #[.int .i64 y.k, .int .i64 y.n, .string y.t]] W fun e w' => (∃ r, e = .returned r) ∧ (∃ a' cap', CRun w' c B i u v (S ++ [y]) nx a' cap') ∧ LowB c B W w') := fun W S a cap y h hs hW => c_put c B i u v S nx a cap W h hcB hW y hs
  obtain ⟨V, hV⟩ : ∃ V, w.alloc (.cells #[.int .i64 x.o, .int .i64 x.p, .int .i64 x.k, .int .i64 x.n, .string x.t] 59) = V := ⟨_, rfl⟩
  have bV : Below w.heap.size w V := by rw [← hV]; exact (Below.refl _ _).alloc (Nat.le_refl _) _
  have AV : Hid (Box V w.heap.size 59 #[.int .i64 x.o, .int .i64 x.p, .int .i64 x.k, .int .i64 x.n, .string x.t]) := by unfold Hid; rw [← hV]; exact Box.new _ _ _
  have HV : Hid (CRun V c B i u v S nx a cap) := h.below bV
  have LV : Hid (LowB c B w V) := LowB.of bV hB
  have sV : w.heap.size < V.heap.size := AV.out.lt
  obtain ⟨p0, p1, p2, p3, p4⟩ := box5 AV.out
  clear h bV
  have CC : Hid (∀ W, Calls Tryd.prog 62 #[.int .i64 x.p, .agg #[.int .i64 i, .int .i64 u.1, .int .i64 u.2.1, .string u.2.2, .int .i64 v.1, .int .i64 v.2.1, .string v.2.2]] W fun e w' => e = .returned (.agg #[.int .i64 (colE x.p i u v).k, .int .i64 (colE x.p i u v).n, .string (colE x.p i u v).t]) ∧ Below W.heap.size W w') := fun W => c_colV x.p i u v W hp
  obtain ⟨q0, q1, q2, q3, q4, q5, q6, q7, q8⟩ := box9 HV.out.x
  clear q7 q8
  go_enter Tryd.func50, Tryd.ntmps50
  go_wp2_with fail
  go_region_with (first | (go_at_call 62; refine (CC.out _).mono ?_; rintro e w1 ⟨rfl, hb1⟩) | (go_at_call 74; refine (CP.out _ S a cap (evS (colE x.p i u v)) (HV.out.below ((Below.refl _ _).drew.trans hb1)) hs (by have := hb1.size; simp at this; omega)).mono ?_; rintro e w2 ⟨⟨r, rfl⟩, hc2, hl2⟩))
  all_goals
    have H2 : Hid (∃ a' cap', CRun w2 c B i u v (S ++ [evS (colE x.p i u v)]) nx a' cap') := hc2
    have L2 : Hid (LowB c B w w2) := (LV.out.trans (LowB.of ((Below.refl _ _).drew.trans hb1) (by omega))).trans hl2
    clear hc2 hl2 hb1
    go_wp2
    go_ret
    exact ⟨rfl, H2.out, L2.out⟩
theorem LowB.cell {c B g o : Nat} {w w' : World} {x : Value} (h : LowB c B w w') (hx : w.cell? ⟨g, o, none⟩ = some x) (hg : g < B) (hc : g ≠ c) : w'.cell? ⟨g, o, none⟩ = some x := (World.cell?_of_block (h.block g hg hc)).trans hx
theorem CRun.set {w : World} {c B : Nat} {i : Int} {u v : VV} {S : List SV} {nx : Int} {a : Option Addr} {cap : Nat} (h : CRun w c B i u v S nx a cap) (p : Addr) (x : Value) (hc : p.block ≠ c) (hg : ∀ g, ob a = some g → g ≠ p.block) : CRun (w.setCell p x) c B i u v S nx a cap :=
  ⟨h.x.setOther p x (fun e => hc e.symm), own_same h.r fun g e => Below.heap_setCell _ _ _ _ (hg g (by rwa [ob_slice] at e))⟩
theorem CRun.blk {w : World} {c B : Nat} {i : Int} {u v : VV} {S : List SV} {nx : Int} {a : Option Addr} {cap : Nat} (h : CRun w c B i u v S nx a cap) : ∀ g, ob a = some g → B ≤ g ∧ g < w.heap.size := fun g hg => by
  rcases own_form h.r with ⟨e, _⟩ | ⟨g', c', hv, hb, hl⟩
  · simp only [Value.slice.injEq] at e; rw [e.1] at hg; cases hg
  · simp only [Value.slice.injEq] at hv; rw [hv.1] at hg; cases hg; exact ⟨hb, hl⟩
set_option maxRecDepth 100000 in
set_option maxHeartbeats 4000000 in
theorem c_muna (c B : Nat) (i : Int) (u v : VV) (S : List SV) (nx : Int) (a : Option Addr) (cap : Nat) (w : World) (h : CRun w c B i u v S nx a cap) (hcB : c < B) (hB : B ≤ w.heap.size) (x : IN) (hs : S.length ≤ 1000) (h0 : 0 < S.length) (hok : okS (lastS S)) :
    Calls Tryd.prog 51 #[.pointer (some ⟨c, 0, none⟩), .agg #[.int .i64 x.o, .int .i64 x.p, .int .i64 x.k, .int .i64 x.n, .string x.t]] w fun e w' => e = .returned (.int .i64 ((unaE x.p (lastS S).k (lastS S).n).c)) ∧ (∃ a' cap', CRun w' c B i u v (S.dropLast ++ [evS (unaE x.p (lastS S).k (lastS S).n)]) (nx) a' cap') ∧ LowB c B w w' := by
  have CP : Hid (∀ W S a cap (y : SV), CRun W c B i u v S nx a cap → S.length ≤ 1000 → B ≤ W.heap.size → Calls Tryd.prog 74 #[.pointer (some ⟨c, 0, none⟩), .agg #[.int .i64 y.k, .int .i64 y.n, .string y.t]] W fun e w' => (∃ r, e = .returned r) ∧ (∃ a' cap', CRun w' c B i u v (S ++ [y]) nx a' cap') ∧ LowB c B W w') := fun W S a cap y h hs hW => c_put c B i u v S nx a cap W h hcB hW y hs
  have CO : Hid (∀ W S a cap, CRun W c B i u v S nx a cap → 0 < S.length → S.length ≤ 1000 → B ≤ W.heap.size → Calls Tryd.prog 55 #[.pointer (some ⟨c, 0, none⟩)] W fun e w' => e = .returned (.agg #[.int .i64 (lastS S).k, .int .i64 (lastS S).n, .string (lastS S).t]) ∧ CRun w' c B i u v S.dropLast nx a cap ∧ LowB c W.heap.size W w') := fun W S a cap h h0 hs hW => c_pop c B i u v S nx a cap W h hcB hW h0 hs
  have hd : S.dropLast.length ≤ 1000 := by simp; omega
  have lc : c < w.heap.size := h.x.lt
  obtain ⟨V, hV⟩ : ∃ V, w.alloc (.cells #[.int .i64 x.o, .int .i64 x.p, .int .i64 x.k, .int .i64 x.n, .string x.t] 59) = V := ⟨_, rfl⟩
  have bV : Below w.heap.size w V := by rw [← hV]; exact (Below.refl _ _).alloc (Nat.le_refl _) _
  have AV : Hid (Box V w.heap.size 59 #[.int .i64 x.o, .int .i64 x.p, .int .i64 x.k, .int .i64 x.n, .string x.t]) := by unfold Hid; rw [← hV]; exact Box.new _ _ _
  have HV : Hid (CRun V c B i u v S nx a cap) := h.below bV
  have LV : Hid (LowB c B w V) := LowB.of bV hB
  have sV : w.heap.size < V.heap.size := AV.out.lt
  obtain ⟨p0, p1, p2, p3, p4⟩ := box5 AV.out
  clear h bV
  obtain ⟨T, hT⟩ : ∃ T, lastS S = T := ⟨_, rfl⟩
  rw [hT] at hok ⊢
  have HT : Hid (lastS S = T) := hT
  obtain ⟨E, hE⟩ : ∃ E, unaE x.p T.k T.n = E := ⟨_, rfl⟩
  have CU : Hid (∀ W, Calls Tryd.prog 63 #[.int .i64 x.p, .agg #[.int .i64 T.k, .int .i64 T.n, .string T.t]] W fun e w' => e = .returned (.tuple #[.agg #[.int .i64 E.k, .int .i64 E.n, .string E.t], .int .i64 E.c]) ∧ Below W.heap.size W w') := fun W => by rw [← hE]; exact c_uI x.p T.k T.n T.t W hok
  have C1a := CO.out V.drew S a cap (HV.out.below (Below.refl _ _).drew) h0 hs (by simp; omega)
  have bz : Below V.heap.size V (V.drew.alloc (.cells #[.int .i64 0, .int .i64 0, .string ⟨#[]⟩] 29)) := (Below.refl _ _).drew.alloc (Nat.le_refl _) _
  have C1b := CO.out (V.drew.alloc (.cells #[.int .i64 0, .int .i64 0, .string ⟨#[]⟩] 29)) S a cap (HV.out.below bz) h0 hs (by simp; omega)
  have ZB0 : Hid (Box (V.drew.alloc (.cells #[.int .i64 0, .int .i64 0, .string ⟨#[]⟩] 29)) V.heap.size 29 #[.int .i64 0, .int .i64 0, .string ⟨#[]⟩]) := Box.new V.drew #[.int .i64 0, .int .i64 0, .string ⟨#[]⟩] 29
  have pz : (V.drew.alloc (.cells #[.int .i64 0, .int .i64 0, .string ⟨#[]⟩] 29)).cell? ⟨w.heap.size, 1, none⟩ = some (.int .i64 x.p) := far6 bz p1
  rw [hT] at C1a C1b
  rw [hE]
  clear hT hE CO h0 hok
  have lV : Hid (∀ W, LowB c V.heap.size V.drew W → LowB c B w W) := fun W hW => LV.out.trans ((LowB.of ((Below.refl _ _).drew) (by omega)).trans (hW.mono (by omega)))
  have lZ : Hid (∀ W, LowB c (V.drew.alloc (.cells #[.int .i64 0, .int .i64 0, .string ⟨#[]⟩] 29)).heap.size (V.drew.alloc (.cells #[.int .i64 0, .int .i64 0, .string ⟨#[]⟩] 29)) W → LowB c B w W ∧ Box W V.heap.size 29 #[.int .i64 0, .int .i64 0, .string ⟨#[]⟩] ∧ W.cell? ⟨w.heap.size, 1, none⟩ = some (.int .i64 x.p) ∧ V.heap.size < W.heap.size) := fun W hW => ⟨LV.out.trans ((LowB.of bz (by omega)).trans (hW.mono (by have := bz.size; omega))), hW.box ZB0.out (by simp) (by omega), hW.cell pz (by simp; omega) (by omega), by have := hW.size; simp at this; omega⟩
  have HO : Hid (∀ g, ob a = some g → B ≤ g ∧ g < V.heap.size) := HV.out.blk
  clear bz ZB0 pz
  go_enter Tryd.func51, Tryd.ntmps51
  go_wp2_with fail
  go_region_with (first
    | (go_at_call 55
       first
         | (refine C1a.mono ?_
            rintro e w1 ⟨rfl, hc1, hl1⟩
            have p1' := hl1.cell p1 (by simp; omega) (by omega)
            have L1 : Hid (LowB c B w w1) := lV.out w1 hl1
            have s1 : V.heap.size ≤ w1.heap.size := hl1.size
            have s1w : w.heap.size < w1.heap.size := by omega
            have R1 : Hid (CRun w1 c B i u v S.dropLast nx a cap) := hc1
            clear hc1 hl1)
         | (refine C1b.mono ?_
            rintro e w1 ⟨rfl, hc1, hl1⟩
            obtain ⟨l1, ZB, p1', s1'⟩ := lZ.out w1 hl1
            have ZB1 : Hid (Box w1 V.heap.size 29 #[.int .i64 0, .int .i64 0, .string ⟨#[]⟩]) := ZB
            have L1 : Hid (LowB c B w w1) := l1
            have R1 : Hid (CRun w1 c B i u v S.dropLast nx a cap) := hc1
            have s1 : V.heap.size ≤ w1.heap.size := by omega
            have s1w : w.heap.size < w1.heap.size := by omega
            clear hc1 hl1 ZB l1))
    | (go_at_call 63
       refine (CU.out _).mono ?_
       rintro e w2 ⟨rfl, hb2⟩
       first
         | (have ZB2 : Box w2 V.heap.size 29 #[.int .i64 0, .int .i64 0, .string ⟨#[]⟩] := ZB1.out.belowS hb2
            have XB2 : Hid (Box w2 V.heap.size 29 #[.int .i64 0, .int .i64 0, .string ⟨#[]⟩]) := ZB2
            obtain ⟨u0, u1, u2⟩ := box3 ZB2
            have t0 := ZB2.thaw 0
            have t1 := ZB2.thaw 1
            have t2 := ZB2.thaw 2
            clear ZB2)
         | (have ZB2 : Box w2 w1.heap.size 29 #[.int .i64 0, .int .i64 0, .string ⟨#[]⟩] := (Box.new w1 #[.int .i64 0, .int .i64 0, .string ⟨#[]⟩] 29).belowS hb2
            have XB2 : Hid (Box w2 w1.heap.size 29 #[.int .i64 0, .int .i64 0, .string ⟨#[]⟩]) := ZB2
            obtain ⟨u0, u1, u2⟩ := box3 ZB2
            have t0 := ZB2.thaw 0
            have t1 := ZB2.thaw 1
            have t2 := ZB2.thaw 2
            have hbx : Below w1.heap.size w1 w2 := ((Below.refl w1.heap.size w1).alloc (Nat.le_refl _) _).trans (hb2.mono (by simp))
            clear ZB2)
         | skip))
  all_goals
    first
      | (have ZZ := ZB1
         obtain ⟨W3, hW3⟩ : ∃ W, (((w2).setCell ⟨V.heap.size, 0, none⟩ (.int .i64 E.k)).setCell ⟨V.heap.size, 1, none⟩ (.int .i64 E.n)).setCell ⟨V.heap.size, 2, none⟩ (.string E.t) = W := ⟨_, rfl⟩
         have hgn : ∀ j, ob a = some j → j ≠ V.heap.size := fun j hj => by have := HO.out j hj; omega
         have R3 : Hid (CRun W3 c B i u v S.dropLast nx a cap) := by unfold Hid; rw [← hW3]; exact (((R1.out.below hb2).set _ _ (by show V.heap.size ≠ c; omega) hgn).set _ _ (by show V.heap.size ≠ c; omega) hgn).set _ _ (by show V.heap.size ≠ c; omega) hgn
         have L2 : LowB c B w w2 := L1.out.trans (LowB.of hb2 (by omega))
         have L3 : Hid (LowB c B w W3) := by unfold Hid; rw [← hW3]; exact ((L2.set _ _ (.inr (by show B ≤ V.heap.size; omega))).set _ _ (.inr (by show B ≤ V.heap.size; omega))).set _ _ (.inr (by show B ≤ V.heap.size; omega))
         have s3 : B ≤ W3.heap.size := by have := L3.out.size; omega
         have X3 : Box W3 V.heap.size 29 #[.int .i64 E.k, .int .i64 E.n, .string E.t] := by rw [← hW3]; exact put3_box XB2.out _ _ _
         clear hgn L2 hb2
         have C3 := CP.out W3 S.dropLast a cap (evS E) R3.out hd s3
         obtain ⟨y0, y1, y2⟩ := box3 X3
         go_wp2_with fail
         clear hW3 X3
         refine C3.mono ?_
         rintro e w4 ⟨⟨r, rfl⟩, hc4, hl4⟩
         have H4 : Hid (∃ a' cap', CRun w4 c B i u v (S.dropLast ++ [evS E]) nx a' cap') := hc4
         have L4 : Hid (LowB c B w w4) := L3.out.trans hl4
         clear hc4 hl4 C3
         go_wp2
         go_ret
         exact ⟨rfl, H4.out, L4.out⟩)
      | (have ZZ := hbx
         obtain ⟨W3, hW3⟩ : ∃ W, (((w2).setCell ⟨w1.heap.size, 0, none⟩ (.int .i64 E.k)).setCell ⟨w1.heap.size, 1, none⟩ (.int .i64 E.n)).setCell ⟨w1.heap.size, 2, none⟩ (.string E.t) = W := ⟨_, rfl⟩
         have hgn : ∀ j, ob a = some j → j ≠ w1.heap.size := fun j hj => by have := HO.out j hj; omega
         have R3 : Hid (CRun W3 c B i u v S.dropLast nx a cap) := by unfold Hid; rw [← hW3]; exact (((R1.out.below hbx).set _ _ (by show w1.heap.size ≠ c; omega) hgn).set _ _ (by show w1.heap.size ≠ c; omega) hgn).set _ _ (by show w1.heap.size ≠ c; omega) hgn
         have L2 : LowB c B w w2 := L1.out.trans (LowB.of hbx (by omega))
         have L3 : Hid (LowB c B w W3) := by unfold Hid; rw [← hW3]; exact ((L2.set _ _ (.inr (by show B ≤ w1.heap.size; omega))).set _ _ (.inr (by show B ≤ w1.heap.size; omega))).set _ _ (.inr (by show B ≤ w1.heap.size; omega))
         have s3 : B ≤ W3.heap.size := by have := L3.out.size; omega
         have X3 : Box W3 w1.heap.size 29 #[.int .i64 E.k, .int .i64 E.n, .string E.t] := by rw [← hW3]; exact put3_box XB2.out _ _ _
         clear hgn L2 hb2
         have C3 := CP.out W3 S.dropLast a cap (evS E) R3.out hd s3
         obtain ⟨y0, y1, y2⟩ := box3 X3
         go_wp2_with fail
         clear hW3 X3
         refine C3.mono ?_
         rintro e w4 ⟨⟨r, rfl⟩, hc4, hl4⟩
         have H4 : Hid (∃ a' cap', CRun w4 c B i u v (S.dropLast ++ [evS E]) nx a' cap') := hc4
         have L4 : Hid (LowB c B w w4) := L3.out.trans hl4
         clear hc4 hl4 C3
         go_wp2
         go_ret
         exact ⟨rfl, H4.out, L4.out⟩)
      | (obtain ⟨W3, hW3⟩ : ∃ W, w2.alloc (.cells #[.int .i64 E.k, .int .i64 E.n, .string E.t] 29) = W := ⟨_, rfl⟩
         have b3 : Below w2.heap.size w2 W3 := by rw [← hW3]; exact (Below.refl _ _).alloc (Nat.le_refl _) _
         have b13 : Below w1.heap.size w1 W3 := hb2.trans (b3.mono hb2.size)
         have R3 : Hid (CRun W3 c B i u v S.dropLast nx a cap) := R1.out.below b13
         have L3 : Hid (LowB c B w W3) := L1.out.trans (LowB.of b13 (by omega))
         have s3 : B ≤ W3.heap.size := by have := b13.size; omega
         have X3 : Box W3 w2.heap.size 29 #[.int .i64 E.k, .int .i64 E.n, .string E.t] := by rw [← hW3]; exact Box.new _ _ _
         clear b3 b13 hb2
         have C3 := CP.out W3 S.dropLast a cap (evS E) R3.out hd s3
         obtain ⟨y0, y1, y2⟩ := box3 X3
         go_wp2_with fail
         clear hW3 X3
         refine C3.mono ?_
         rintro e w4 ⟨⟨r, rfl⟩, hc4, hl4⟩
         have H4 : Hid (∃ a' cap', CRun w4 c B i u v (S.dropLast ++ [evS E]) nx a' cap') := hc4
         have L4 : Hid (LowB c B w w4) := L3.out.trans hl4
         clear hc4 hl4 C3
         go_wp2
         go_ret
         exact ⟨rfl, H4.out, L4.out⟩)
set_option maxRecDepth 100000 in
set_option maxHeartbeats 4000000 in
theorem c_mbin (c B : Nat) (i : Int) (u v : VV) (S : List SV) (nx : Int) (a : Option Addr) (cap : Nat) (w : World) (h : CRun w c B i u v S nx a cap) (hcB : c < B) (hB : B ≤ w.heap.size) (x : IN) (hs : S.length ≤ 1000) (h0 : 1 < S.length) (hok : okS (lastS S)) (hok2 : okS (lastS S.dropLast)) (hp : inB x.p 6 13 = true) :
    Calls Tryd.prog 52 #[.pointer (some ⟨c, 0, none⟩), .agg #[.int .i64 x.o, .int .i64 x.p, .int .i64 x.k, .int .i64 x.n, .string x.t]] w fun e w' => e = .returned (.int .i64 ((binR x.p (lastS S.dropLast).k (lastS S.dropLast).n (lastS S.dropLast).t (lastS S).k (lastS S).n (lastS S).t).c)) ∧ (∃ a' cap', CRun w' c B i u v (S.dropLast.dropLast ++ [brS (binR x.p (lastS S.dropLast).k (lastS S.dropLast).n (lastS S.dropLast).t (lastS S).k (lastS S).n (lastS S).t)]) (nx) a' cap') ∧ LowB c B w w' := by
  have CP : Hid (∀ W S a cap (y : SV), CRun W c B i u v S nx a cap → S.length ≤ 1000 → B ≤ W.heap.size → Calls Tryd.prog 74 #[.pointer (some ⟨c, 0, none⟩), .agg #[.int .i64 y.k, .int .i64 y.n, .string y.t]] W fun e w' => (∃ r, e = .returned r) ∧ (∃ a' cap', CRun w' c B i u v (S ++ [y]) nx a' cap') ∧ LowB c B W w') := fun W S a cap y h hs hW => c_put c B i u v S nx a cap W h hcB hW y hs
  have CO : Hid (∀ W S a cap, CRun W c B i u v S nx a cap → 0 < S.length → S.length ≤ 1000 → B ≤ W.heap.size → Calls Tryd.prog 55 #[.pointer (some ⟨c, 0, none⟩)] W fun e w' => e = .returned (.agg #[.int .i64 (lastS S).k, .int .i64 (lastS S).n, .string (lastS S).t]) ∧ CRun w' c B i u v S.dropLast nx a cap ∧ LowB c W.heap.size W w') := fun W S a cap h h0 hs hW => c_pop c B i u v S nx a cap W h hcB hW h0 hs
  have hd1 : S.dropLast.length ≤ 1000 ∧ 0 < S.dropLast.length := by simp; omega
  have hd2 : S.dropLast.dropLast.length ≤ 1000 := by simp; omega
  have lc : c < w.heap.size := h.x.lt
  obtain ⟨V, hV⟩ : ∃ V, w.alloc (.cells #[.int .i64 x.o, .int .i64 x.p, .int .i64 x.k, .int .i64 x.n, .string x.t] 59) = V := ⟨_, rfl⟩
  have bV : Below w.heap.size w V := by rw [← hV]; exact (Below.refl _ _).alloc (Nat.le_refl _) _
  have AV : Hid (Box V w.heap.size 59 #[.int .i64 x.o, .int .i64 x.p, .int .i64 x.k, .int .i64 x.n, .string x.t]) := by unfold Hid; rw [← hV]; exact Box.new _ _ _
  have HV : Hid (CRun V c B i u v S nx a cap) := h.below bV
  have LV : Hid (LowB c B w V) := LowB.of bV hB
  have sV : w.heap.size < V.heap.size := AV.out.lt
  obtain ⟨p0, p1, p2, p3, p4⟩ := box5 AV.out
  clear h bV
  have hpp := inB_iff.1 hp
  obtain ⟨T, hT⟩ : ∃ T, lastS S = T := ⟨_, rfl⟩
  obtain ⟨T2, hT2⟩ : ∃ T, lastS S.dropLast = T := ⟨_, rfl⟩
  rw [hT] at hok ⊢
  rw [hT2] at hok2 ⊢
  obtain ⟨E, hE⟩ : ∃ E, binR x.p T2.k T2.n T2.t T.k T.n T.t = E := ⟨_, rfl⟩
  have CU : Hid (∀ W, Calls Tryd.prog 75 #[.int .i64 x.p, .agg #[.int .i64 T2.k, .int .i64 T2.n, .string T2.t], .agg #[.int .i64 T.k, .int .i64 T.n, .string T.t]] W fun e w' => e = .returned (.tuple #[.agg #[.int .i64 E.k, .int .i64 E.n, .string ⟨#[]⟩], .int .i64 E.c]) ∧ Below W.heap.size W w') := fun W => by rw [← hE]; exact c_binV x.p T2.k T2.n T2.t T.k T.n T.t W hpp.1 hpp.2 (rt_of hok2) (rt_of hok)
  have C1 := CO.out V S a cap HV.out (by omega) hs (by omega)
  rw [hT] at C1
  rw [hE]
  clear hT hE hok hok2 hpp
  go_enter Tryd.func52, Tryd.ntmps52
  go_wp2_with fail
  refine C1.mono ?_
  rintro e w1 ⟨rfl, hc1, hl1⟩
  have s1 : V.heap.size ≤ w1.heap.size := hl1.size
  obtain ⟨W1, hW1⟩ : ∃ W, w1.alloc (.cells #[.int .i64 T.k, .int .i64 T.n, .string T.t] 29) = W := ⟨_, rfl⟩
  have b1 : Below w1.heap.size w1 W1 := by rw [← hW1]; exact (Below.refl _ _).alloc (Nat.le_refl _) _
  have R1 : Hid (CRun W1 c B i u v S.dropLast nx a cap) := hc1.below b1
  have L1 : Hid (LowB c V.heap.size V W1) := hl1.trans (LowB.of b1 s1)
  have X1 : Hid (Box W1 w1.heap.size 29 #[.int .i64 T.k, .int .i64 T.n, .string T.t]) := by unfold Hid; rw [← hW1]; exact Box.new _ _ _
  have A1 : Hid (Box W1 w.heap.size 59 #[.int .i64 x.o, .int .i64 x.p, .int .i64 x.k, .int .i64 x.n, .string x.t]) := L1.out.box AV.out sV (by omega)
  have sW1 : w1.heap.size < W1.heap.size := X1.out.lt
  have C2 := CO.out W1 S.dropLast a cap R1.out hd1.2 hd1.1 (by omega)
  rw [hT2] at C2
  clear b1 hc1 hl1 C1 hT2 p0 p1 p2 p3 p4 CO
  go_wp2_with fail
  refine C2.mono ?_
  rintro e w2 ⟨rfl, hc2, hl2⟩
  have s2 : W1.heap.size ≤ w2.heap.size := hl2.size
  obtain ⟨W2, hW2⟩ : ∃ W, w2.alloc (.cells #[.int .i64 T2.k, .int .i64 T2.n, .string T2.t] 29) = W := ⟨_, rfl⟩
  have b2 : Below w2.heap.size w2 W2 := by rw [← hW2]; exact (Below.refl _ _).alloc (Nat.le_refl _) _
  have R2 : Hid (CRun W2 c B i u v S.dropLast.dropLast nx a cap) := hc2.below b2
  have L12 : LowB c W1.heap.size W1 W2 := hl2.trans (LowB.of b2 s2)
  have L2 : Hid (LowB c B w W2) := (LV.out.trans (L1.out.mono (by omega))).trans (L12.mono (by omega))
  have X2 : Box W2 w2.heap.size 29 #[.int .i64 T2.k, .int .i64 T2.n, .string T2.t] := by rw [← hW2]; exact Box.new _ _ _
  have Y2 : Box W2 w1.heap.size 29 #[.int .i64 T.k, .int .i64 T.n, .string T.t] := L12.box X1.out sW1 (by omega)
  have A2 : Box W2 w.heap.size 59 #[.int .i64 x.o, .int .i64 x.p, .int .i64 x.k, .int .i64 x.n, .string x.t] := L12.box A1.out (by omega) (by omega)
  have sW2 : w2.heap.size < W2.heap.size := X2.lt
  obtain ⟨y0, y1, y2⟩ := box3 X2
  obtain ⟨z0, z1, z2⟩ := box3 Y2
  obtain ⟨p0, p1, p2, p3, p4⟩ := box5 A2
  have C3 := CU.out W2
  clear b2 hc2 hl2 C2 L12 X2 Y2 A2 CU L1 X1 A1 R1
  go_wp2_with fail
  refine C3.mono ?_
  rintro e w3 ⟨rfl, hb3⟩
  have b3 : Below w3.heap.size w3 (w3.alloc (.cells #[.int .i64 E.k, .int .i64 E.n, .string ⟨#[]⟩] 29)) := (Below.refl _ _).alloc (Nat.le_refl _) _
  have b23 := hb3.trans (b3.mono hb3.size)
  have L3 : Hid (LowB c B w (w3.alloc (.cells #[.int .i64 E.k, .int .i64 E.n, .string ⟨#[]⟩] 29))) := L2.out.trans (LowB.of b23 (by omega))
  have C4 := CP.out _ S.dropLast.dropLast a cap (brS E) (R2.out.below b23) hd2 (by have := b23.size; omega)
  dsimp only [brS] at C4
  clear b3 b23 hb3 R2 L2 C3 p0 p1 p2 p3 p4 y0 y1 y2 z0 z1 z2
  go_wp2_with fail
  refine C4.mono ?_
  rintro e w4 ⟨⟨r, rfl⟩, hc4, hl4⟩
  have H4 : Hid (∃ a' cap', CRun w4 c B i u v (S.dropLast.dropLast ++ [brS E]) nx a' cap') := hc4
  have L4 : Hid (LowB c B w w4) := L3.out.trans hl4
  clear hc4 hl4 C4
  go_wp2
  go_ret
  exact ⟨rfl, H4.out, L4.out⟩

end Go.Proofs.YtcgcaomaofppiaaDoor
