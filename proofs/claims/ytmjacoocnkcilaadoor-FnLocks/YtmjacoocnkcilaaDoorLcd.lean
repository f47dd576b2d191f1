/-
  Who is refused waits: the program's walk.
-/
import Derived.Test.YtmjacoocnkcilaaDoorLcc
import Derived.Test.YtmjacoocnkcilaaDoorLgf
import Derived.Deep.RegionWith
import Derived.Deep.DeepCutAuto
namespace Go.Proofs.YtmjacoocnkcilaaDoor
open Go Go.RowKit
attribute [local go_sem ↓] Go.wp_at_zero Go.wp_at_succ

noncomputable def awW (ws F : List WK) (x : Int) : List WK := if 100 < (ws ++ F).length then ws else if rdB (ws ++ F) x = true then ws else ws ++ F
noncomputable def awC (ws F : List WK) (x : Int) : Int := if 100 < (ws ++ F).length then 7 else if rdB (ws ++ F) x = true then 14 else 13
set_option maxRecDepth 100000 in
set_option maxHeartbeats 8000000 in
theorem c_await (g B : Nat) (h : HL) (vs : List LK) (ws : List WK) (x b r m : Int) (o : B64) (w : World) (hg : Box w g 34 #[.slice h.a0 vs.length h.c0, .slice h.a1 ws.length h.c1]) (ow : OwnL w B h vs ws) (lg : g < B) (lB : B ≤ w.heap.size) (hn : vs.length ≤ 60) (hw : ws.length ≤ 100) (hall : vs.all okK = true) (hx : 1 ≤ x ∧ x ≤ 60) (hm : 1 ≤ m ∧ m ≤ 4) (hF : (ws ++ (wf vs x b r m o vs.length).1).all okW = true) (ht : FitH w) (hz : TabZ w) :
    Calls Tryd.prog 95 #[.pointer (some ⟨g, 0, none⟩), .agg #[.int .i64 x, .int .i64 b, .int .i64 r, .int .i64 m], .int .u64 (o.toNat : Int)] w fun e w' => e = .returned (.int .i64 (awC ws (wf vs x b r m o vs.length).1 x)) ∧ (∃ h' : HL, Box w' g 34 #[.slice h'.a0 (vs).length h'.c0, .slice h'.a1 (awW ws (wf vs x b r m o vs.length).1 x).length h'.c1] ∧ OwnL w' B h' vs (awW ws (wf vs x b r m o vs.length).1 x)) ∧ Inn g (g + 1) w w' := by
  have OW : Hid (OwnL w B h vs ws) := ow
  have HZ : Hid (TabZ w) := hz
  have hFl := wf_len vs x b r m o vs.length (Nat.le_refl _)
  obtain ⟨F, hFd⟩ : ∃ F, (wf vs x b r m o vs.length).1 = F := ⟨_, rfl⟩
  have CWF : Hid (∀ W, Below w.heap.size w W → Calls Tryd.prog 101 #[.slice h.a0 vs.length h.c0, .agg #[.int .i64 x, .int .i64 b, .int .i64 r, .int .i64 m], .int .u64 (o.toNat : Int)] W fun e w' => (∃ ha hc, e = .returned (.slice ha F.length hc) ∧ w'.ownsRow W.heap.size 59 2 (.slice ha F.length hc) F.length (cellsW F)) ∧ Below W.heap.size W w') := fun W hW => by rw [← hFd]; exact c_waitsFor h.a0 _ h.c0 vs x b r m o W (RdK.own (own_below OW.out.1 hW)) hn hall hm (ht.below hW)
  rw [hFd] at hF hFl ⊢
  obtain ⟨V, hV⟩ : ∃ V, w.alloc (.cells #[.int .i64 x, .int .i64 b, .int .i64 r, .int .i64 m] 55) = V := ⟨_, rfl⟩
  have hbV : Below w.heap.size w V := by rw [← hV]; exact (Below.refl _ _).alloc (Nat.le_refl _) _
  have BV : Hid (Below w.heap.size w V) := hbV
  have XK : Hid (Box V w.heap.size 55 #[.int .i64 x, .int .i64 b, .int .i64 r, .int .i64 m]) := by unfold Hid; rw [← hV]; exact Box.new _ _ _
  have XG : Hid (Box V g 34 #[.slice h.a0 vs.length h.c0, .slice h.a1 ws.length h.c1]) := hg.belowS hbV
  have lgw : g < w.heap.size := hg.lt
  have s1 : h.a1 = none → ws.length = 0 ∧ h.c1 = 0 := fun e => by
    have h1 := own_src ow.2.1 e
    obtain ⟨hl, hcs⟩ := RdW.own ow.2.1
    refine ⟨?_, h1⟩
    rcases Nat.eq_zero_or_pos ws.length with h | h
    · exact h
    · obtain ⟨b, off, e', _⟩ := hcs h
      rw [e] at e'
      cases e'
  have HF : Hid ((ws ++ F).all okW = true) := hF
  have S1 : Hid (h.a1 = none → ws.length = 0 ∧ h.c1 = 0) := s1
  obtain ⟨x0, x1⟩ := box2 XG.out
  have q0 := XK.out.cell 0
  have q1 := XK.out.cell 1
  have q2 := XK.out.cell 2
  have q3 := XK.out.cell 3
  simp only [List.getElem?_toArray, List.getElem?_cons_zero, List.getElem?_cons_succ] at q0 q1 q2 q3
  clear hg ow ht hz hall hbV hFd hF s1
  go_enter Tryd.func95, Tryd.ntmps95
  go_upto_region 1 with fail
  go_cut [7] (fun s wx => ∃ (ca : Option Addr) (cc : Nat), s = .slice ca (ws ++ F).length cc ∧ Hid (wx.ownsRow w.heap.size 59 2 (.slice ca (ws ++ F).length cc) (ws ++ F).length (cellsW (ws ++ F))) ∧ Hid (Box wx g 34 #[.slice h.a0 vs.length h.c0, .slice h.a1 ws.length h.c1]) ∧ Hid (Box wx w.heap.size 55 #[.int .i64 x, .int .i64 b, .int .i64 r, .int .i64 m]) ∧ Hid (Below w.heap.size w wx))
  case first =>
   go_region_with (first
    | (go_at_call 101
       refine (CWF.out _ ?_).mono ?_
       · first | exact below_drewN BV.out _ | exact BV.out
       rintro e w1 ⟨⟨fa, fc, rfl, o1⟩, hb⟩
       have B1 : Hid (Below w.heap.size w w1) := (below_drewN BV.out 1).trans (hb.mono BV.out.size)
       have R1 : Hid (RdW w1 fa F.length F) := RdW.own o1
       have N1 : Hid (fa = none → F.length = 0 ∧ fc = 0) := (fun e => by
         have h1 := own_src o1 e
         obtain ⟨hl, hcs⟩ := RdW.own o1
         refine ⟨?_, h1⟩
         rcases Nat.eq_zero_or_pos F.length with h | h
         · exact h
         · obtain ⟨b, off, e', _⟩ := hcs h
           rw [e] at e'
           cases e')
       have XG1 : Hid (Box w1 g 34 #[.slice h.a0 vs.length h.c0, .slice h.a1 ws.length h.c1]) := Box.belowS (show Box V.drew g 34 #[.slice h.a0 vs.length h.c0, .slice h.a1 ws.length h.c1] from XG.out) hb
       have XK1 : Hid (Box w1 w.heap.size 55 #[.int .i64 x, .int .i64 b, .int .i64 r, .int .i64 m]) := Box.belowS (show Box V.drew w.heap.size 55 #[.int .i64 x, .int .i64 b, .int .i64 r, .int .i64 m] from XK.out) hb
       obtain ⟨y0, y1⟩ := box2 XG1.out
       obtain ⟨w2, hw2⟩ : ∃ W, w1.alloc (.cells #[.slice h.a1 ws.length h.c1, .slice fa F.length fc] 32) = W := ⟨_, rfl⟩
       have hb2 : Below w1.heap.size w1 w2 := by rw [← hw2]; exact (Below.refl _ _).alloc (Nat.le_refl _) _
       have B2 : Hid (Below w.heap.size w w2) := B1.out.trans (hb2.mono B1.out.size)
       have N2 : Hid (Box w2 w1.heap.size 32 #[.slice h.a1 ws.length h.c1, .slice fa F.length fc]) := by unfold Hid; rw [← hw2]; exact Box.new _ _ _
       have R2 : Hid (RdW w2 fa F.length F) := R1.out.below hb2
       have XG2 : Hid (Box w2 g 34 #[.slice h.a0 vs.length h.c0, .slice h.a1 ws.length h.c1]) := XG1.out.belowS hb2
       have XK2 : Hid (Box w2 w.heap.size 55 #[.int .i64 x, .int .i64 b, .int .i64 r, .int .i64 m]) := XK1.out.belowS hb2
       clear hb hb2 o1)
    | (go_at_call 100
       refine (c_concat w1.heap.size h.a1 ws.length h.c1 ws fa F.length fc F w2 N2.out (RdW.own (own_below OW.out.2.1 B2.out)) R2.out (by omega) (by omega) S1.out N1.out).mono ?_
       rintro e w3 ⟨⟨ca, cc, rfl, o3⟩, hb3⟩
       have B3 : Hid (Below w.heap.size w w3) := B2.out.trans (hb3.mono B2.out.size)
       have XG3 : Hid (Box w3 g 34 #[.slice h.a0 vs.length h.c0, .slice h.a1 ws.length h.c1]) := XG2.out.belowS hb3
       have XK3 : Hid (Box w3 w.heap.size 55 #[.int .i64 x, .int .i64 b, .int .i64 r, .int .i64 m]) := XK2.out.belowS hb3
       have O3 : Hid (w3.ownsRow w.heap.size 59 2 (.slice ca (ws ++ F).length cc) (ws ++ F).length (cellsW (ws ++ F))) := o3.down B2.out.size
       have L3 : Hid (∀ b, ob ca = some b → w2.heap.size ≤ b) := fun b hb => (own_rng o3 b hb).1
       clear hb3 o3))
   all_goals (go_wp2_with fail; go_meet)
   all_goals exact ⟨ca, cc, by first | rfl | rw [List.length_append], O3, XG3, XK3, B3⟩
  case rest =>
    rename World => wx
    obtain ⟨ca, cc, rfl, O3, XG3, XK3, B3⟩ := hcut
    obtain ⟨N, hN⟩ : ∃ N, (ws ++ F).length = N := ⟨_, rfl⟩
    have hN2 : N ≤ 1048576 := by rw [← hN, List.length_append]; omega
    have I3 : Hid (Inn g (g + 1) w wx) := Inn.of_below B3.out
    have O4 : Hid (OwnL wx B h vs ws) := OW.out.below B3.out
    have HN : Hid ((ws ++ F).length = N) := hN
    clear q0 q1 q2 q3 x0 x1
    by_cases hL : 100 < N
    · have cL : (100 : Int) < (N : Int) := by omega
      have E : Hid (awW ws F x = ws ∧ awC ws F x = 7) := by unfold Hid awW awC; rw [hN, if_pos hL, if_pos hL]; exact ⟨rfl, rfl⟩
      rw [hN]
      clear hN
      go_wp2
      go_ret
      exact ⟨ret_int E.out.2.symm, ⟨h, by rw [E.out.1]; exact XG3.out, by rw [E.out.1]; exact O4.out⟩, I3.out⟩
    have cL : ¬ (100 : Int) < (N : Int) := by omega
    obtain ⟨xn, hxn⟩ : ∃ xn : Nat, x = (xn : Int) := ⟨x.toNat, by omega⟩
    have CL : Hid (Calls Tryd.prog 65 #[.slice ca N cc, .int .i64 x] wx fun e w' => (∃ b : Bool, e = .returned (.bool b) ∧ (b = true ↔ Rch (ws ++ F) x x)) ∧ Below wx.heap.size wx w') := by
      unfold Hid
      rw [hxn]
      have hr := RdW.own O3.out
      rw [hN] at hr
      exact c_lead ca N cc (ws ++ F) xn wx hr hN2 HF.out (by omega) (HZ.out.below B3.out)
    rw [hN]
    clear hN hxn
    have q0 := XK3.out.cell 0
    have q1 := XK3.out.cell 1
    have q2 := XK3.out.cell 2
    have q3 := XK3.out.cell 3
    simp only [List.getElem?_toArray, List.getElem?_cons_zero, List.getElem?_cons_succ] at q0 q1 q2 q3
    go_wp2_with fail
    refine CL.out.mono ?_
    rintro e w4 ⟨⟨bb, rfl, hb'⟩, hb4⟩
    have hbe := rdB_eq hb'
    have XG4 : Hid (Box w4 g 34 #[.slice h.a0 vs.length h.c0, .slice h.a1 ws.length h.c1]) := XG3.out.belowS hb4
    have O5 : Hid (OwnL w4 B h vs ws) := O4.out.below hb4
    have P5 : Hid (w4.ownsRow w.heap.size 59 2 (.slice ca (ws ++ F).length cc) (ws ++ F).length (cellsW (ws ++ F))) := own_below O3.out hb4
    have I4 : Hid (Inn g (g + 1) w w4) := I3.out.trans (Inn.of_below hb4)
    clear hb4 hb' q0 q1 q2 q3 XG3 O4 O3 I3 CL
    obtain ⟨y0, y1⟩ := box2 XG4.out
    obtain ⟨t0, t1⟩ := thaw2 XG4.out
    cases bb
    · have E : Hid (awW ws F x = ws ++ F ∧ awC ws F x = 13) := by unfold Hid awW awC; rw [HN.out, if_neg hL, if_neg hL, ← hbe]; exact ⟨rfl, rfl⟩
      have rc := own_rng P5.out
      have ra := own_rng O5.out.1
      have lk0 : Hid (∀ k, ob h.a0 = some k → k < w.heap.size) := fun k hk => (own_rng OW.out.1 k hk).2
      have X6 : Hid (Box (w4.setCell ⟨g, 1, none⟩ (.slice ca N cc)) g 34 #[.slice h.a0 vs.length h.c0, .slice ca N cc]) := XG4.out.set 1 _
      have i6 : Inn g (g + 1) w4 (w4.setCell ⟨g, 1, none⟩ (.slice ca N cc)) := set_inn _
      have O6 : Hid ((w4.setCell ⟨g, 1, none⟩ (.slice ca N cc)).ownsRow B 55 4 (.slice h.a0 vs.length h.c0) vs.length (cellsK vs)) := own_inn O5.out.1 i6 (fun k hk => .inr (by have := ra k hk; omega))
      have P6 : Hid ((w4.setCell ⟨g, 1, none⟩ (.slice ca N cc)).ownsRow B 59 2 (.slice ca (ws ++ F).length cc) (ws ++ F).length (cellsW (ws ++ F))) := (own_inn P5.out i6 (fun k hk => .inr (by have := rc k hk; omega))).down lB
      have I6 : Hid (Inn g (g + 1) w (w4.setCell ⟨g, 1, none⟩ (.slice ca N cc))) := I4.out.trans i6
      have D6 : Hid (∀ k, ob h.a0 = some k → ob ca ≠ some k) := fun k hk hk' => by have := lk0.out k hk; have := rc k hk'; omega
      clear rc ra i6 hbe
      go_wp2
      go_ret
      refine ⟨ret_int E.out.2.symm, ⟨⟨h.a0, h.c0, ca, cc⟩, ?_, ?_⟩, I6.out⟩
      · rw [E.out.1]; show Box _ g 34 #[.slice h.a0 vs.length h.c0, .slice ca (ws ++ F).length cc]; rw [HN.out]; exact X6.out
      · rw [E.out.1]; exact ⟨O6.out, P6.out, D6.out⟩
    · have E : Hid (awW ws F x = ws ∧ awC ws F x = 14) := by unfold Hid awW awC; rw [HN.out, if_neg hL, if_neg hL, ← hbe]; exact ⟨rfl, rfl⟩
      clear hbe
      go_wp2
      go_ret
      exact ⟨ret_int E.out.2.symm, ⟨h, by rw [E.out.1]; exact XG4.out, by rw [E.out.1]; exact O5.out⟩, I4.out⟩

end Go.Proofs.YtmjacoocnkcilaaDoor
