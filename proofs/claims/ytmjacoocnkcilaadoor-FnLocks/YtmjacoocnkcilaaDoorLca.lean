/-
  Copies of locks that are the callee's own.
-/
import Derived.Test.YtmjacoocnkcilaaDoorLmk
import Derived.Deep.RegionWith
namespace Go.Proofs.YtmjacoocnkcilaaDoor
open Go Go.RowKit
attribute [local go_sem ↓] Go.wp_at_zero Go.wp_at_succ

theorem srcK {w : World} {a : Option Addr} {n : Nat} {vs : List LK} (hr : RdK w a n vs) : ∀ ad, a = some ad → ∀ j u, (cellsK vs)[j]? = some u → w.cell? (ad.add j) = some u := by
  obtain ⟨hl, hcs⟩ := hr
  intro ad e j u hu
  have hj : j < vs.length * 4 := by
    rcases Nat.lt_or_ge j (cellsK vs).length with h | h
    · rwa [cellsK_len] at h
    · rw [List.getElem?_eq_none h] at hu; cases hu
  obtain ⟨b, off, e', _, hc⟩ := hcs (by omega)
  obtain rfl := Option.some.inj (e.symm.trans e')
  have hi : j / 4 < n := by omega
  obtain ⟨c0, c1, c2, c3⟩ := hc (j / 4) hi
  obtain ⟨g0, g1, g2, g3⟩ := cellsK_get vs (j / 4) (by omega)
  rw [addr_add, ← hu]
  have hm : j % 4 = 0 ∨ j % 4 = 1 ∨ j % 4 = 2 ∨ j % 4 = 3 := by omega
  rcases hm with h | h | h | h
  · have e1 : j = j / 4 * 4 := by omega
    have e2 : off + j = off + j / 4 * 4 := by omega
    rw [e2, c0, ← g0, ← e1]
  · have e1 : j = j / 4 * 4 + 1 := by omega
    have e2 : off + j = off + j / 4 * 4 + 1 := by omega
    rw [e2, c1, ← g1, ← e1]
  · have e1 : j = j / 4 * 4 + 2 := by omega
    have e2 : off + j = off + j / 4 * 4 + 2 := by omega
    rw [e2, c2, ← g2, ← e1]
  · have e1 : j = j / 4 * 4 + 3 := by omega
    have e2 : off + j = off + j / 4 * 4 + 3 := by omega
    rw [e2, c3, ← g3, ← e1]
set_option maxRecDepth 100000 in
set_option maxHeartbeats 8000000 in
theorem c_copyK (a : Option Addr) (n cap : Nat) (vs : List LK) (w : World) (hr : RdK w a n vs) (hn : n ≤ 1048576) (hs : a = none → cap = 0) :
    Calls Tryd.prog 92 #[.slice a n cap] w fun e w' => (∃ ha hc, e = .returned (.slice ha n hc) ∧ w'.ownsRow w.heap.size 55 4 (.slice ha n hc) n (cellsK vs)) ∧ Below w.heap.size w w' := by
  have HR : Hid (RdK w a n vs) := hr
  have hl := hr.1
  obtain ⟨i0, hi, hz0, hz1, hz2⟩ := info_parts infoK
  have hno : a = none → n = 0 ∧ cap = 0 := fun e => by
    refine ⟨?_, hs e⟩
    rcases Nat.eq_zero_or_pos n with h | h
    · exact h
    · obtain ⟨b, off, e', _⟩ := hr.2 h
      rw [e] at e'
      cases e'
  have HNO : Hid (a = none → n = 0 ∧ cap = 0) := hno
  clear hr hno hs
  go_enter Tryd.func92, Tryd.ntmps92
  go_wp2_with (at_builtin; refine app_any _ rfl (.const (.slice none 0 0)) (.tmp 3) 31 rfl w.heap.size 55 i0 (.agg #[.int .i64 0, .int .i64 0, .int .i64 0, .int .i64 0]) 4 32 Tryd.underlying31 hi hz0 hz1 hz2 rfl (by omega) (.slice none 0 0) 0 [] rfl (World.ownsRow_nil w w.heap.size 55 4) a n cap (cellsK vs) rfl HNO.out (by rw [cellsK_len, hl]) (srcK HR.out) (cellsK_one vs) (by unfold maxLen; omega) (by omega) (Nat.le_refl _) ?_; intro a5 c5 w5 hown5 hgr5 hat5)
  rw [Nat.zero_add, List.nil_append] at hown5
  have B5 : Hid (Below w.heap.size w w5) := (Below.refl _ _).grown hgr5 (Nat.le_refl _) (fun j hj => by cases hj)
  have O5 : Hid (w5.ownsRow w.heap.size 55 4 (.slice a5 n c5) n (cellsK vs)) := hown5
  clear hown5 hgr5 hat5
  go_wp2
  go_ret
  refine ⟨⟨a5, c5, ?_, O5.out⟩, B5.out⟩
  rw [← Nat.zero_add n]; rfl
theorem srcW {w : World} {a : Option Addr} {n : Nat} {vs : List WK} (hr : RdW w a n vs) : ∀ ad, a = some ad → ∀ j u, (cellsW vs)[j]? = some u → w.cell? (ad.add j) = some u := by
  obtain ⟨hl, hcs⟩ := hr
  intro ad e j u hu
  have hj : j < vs.length * 2 := by
    rcases Nat.lt_or_ge j (cellsW vs).length with h | h
    · rwa [cellsW_len] at h
    · rw [List.getElem?_eq_none h] at hu; cases hu
  obtain ⟨b, off, e', _, hc⟩ := hcs (by omega)
  obtain rfl := Option.some.inj (e.symm.trans e')
  have hi : j / 2 < n := by omega
  obtain ⟨c0, c1⟩ := hc (j / 2) hi
  obtain ⟨g0, g1⟩ := cellsW_get vs (j / 2) (by omega)
  rw [addr_add, ← hu]
  have hm : j % 2 = 0 ∨ j % 2 = 1 := by omega
  rcases hm with h | h
  · have e1 : j = j / 2 * 2 := by omega
    have e2 : off + j = off + j / 2 * 2 := by omega
    rw [e2, c0, ← g0, ← e1]
  · have e1 : j = j / 2 * 2 + 1 := by omega
    have e2 : off + j = off + j / 2 * 2 + 1 := by omega
    rw [e2, c1, ← g1, ← e1]
set_option maxRecDepth 100000 in
set_option maxHeartbeats 8000000 in
theorem c_copyW (a : Option Addr) (n cap : Nat) (vs : List WK) (w : World) (hr : RdW w a n vs) (hn : n ≤ 1048576) (hs : a = none → cap = 0) :
    Calls Tryd.prog 93 #[.slice a n cap] w fun e w' => (∃ ha hc, e = .returned (.slice ha n hc) ∧ w'.ownsRow w.heap.size 59 2 (.slice ha n hc) n (cellsW vs)) ∧ Below w.heap.size w w' := by
  have HR : Hid (RdW w a n vs) := hr
  have hl := hr.1
  obtain ⟨i0, hi, hz0, hz1, hz2⟩ := info_parts infoW
  have hno : a = none → n = 0 ∧ cap = 0 := fun e => by
    refine ⟨?_, hs e⟩
    rcases Nat.eq_zero_or_pos n with h | h
    · exact h
    · obtain ⟨b, off, e', _⟩ := hr.2 h
      rw [e] at e'
      cases e'
  have HNO : Hid (a = none → n = 0 ∧ cap = 0) := hno
  clear hr hno hs
  go_enter Tryd.func93, Tryd.ntmps93
  go_wp2_with (at_builtin; refine app_any _ rfl (.const (.slice none 0 0)) (.tmp 3) 32 rfl w.heap.size 59 i0 (.agg #[.int .i64 0, .int .i64 0]) 2 16 Tryd.underlying32 hi hz0 hz1 hz2 rfl (by omega) (.slice none 0 0) 0 [] rfl (World.ownsRow_nil w w.heap.size 59 2) a n cap (cellsW vs) rfl HNO.out (by rw [cellsW_len, hl]) (srcW HR.out) (cellsW_one vs) (by unfold maxLen; omega) (by omega) (Nat.le_refl _) ?_; intro a5 c5 w5 hown5 hgr5 hat5)
  rw [Nat.zero_add, List.nil_append] at hown5
  have B5 : Hid (Below w.heap.size w w5) := (Below.refl _ _).grown hgr5 (Nat.le_refl _) (fun j hj => by cases hj)
  have O5 : Hid (w5.ownsRow w.heap.size 59 2 (.slice a5 n c5) n (cellsW vs)) := hown5
  clear hown5 hgr5 hat5
  go_wp2
  go_ret
  refine ⟨⟨a5, c5, ?_, O5.out⟩, B5.out⟩
  rw [← Nat.zero_add n]; rfl
set_option maxRecDepth 100000 in
set_option maxHeartbeats 8000000 in
theorem c_copyL (h : HL) (vs : List LK) (ws : List WK) (w : World) (r : RdL w h vs ws) (f0 : vs.length ≤ 1048576) (f1 : ws.length ≤ 1048576) (s0 : h.a0 = none → h.c0 = 0) (s1 : h.a1 = none → h.c1 = 0) :
    Calls Tryd.prog 67 #[.agg #[.slice h.a0 vs.length h.c0, .slice h.a1 ws.length h.c1]] w fun e w' => (∃ h' : HL, e = .returned (.agg #[.slice h'.a0 vs.length h'.c0, .slice h'.a1 ws.length h'.c1]) ∧ OwnL w' w.heap.size h' vs ws) ∧ Below w.heap.size w w' := by
  have R : Hid (RdL w h vs ws) := r
  obtain ⟨V0, hV0⟩ : ∃ V, w.alloc (.cells #[.slice h.a0 vs.length h.c0, .slice h.a1 ws.length h.c1] 34) = V := ⟨_, rfl⟩
  obtain ⟨V, hV⟩ : ∃ V, V0.alloc (.cells #[.slice none 0 0, .slice none 0 0] 34) = V := ⟨_, rfl⟩
  have hb0 : Below w.heap.size w V0 := by rw [← hV0]; exact (Below.refl _ _).alloc (Nat.le_refl _) _
  have hb1 : Below V0.heap.size V0 V := by rw [← hV]; exact (Below.refl _ _).alloc (Nat.le_refl _) _
  have B : Hid (Below w.heap.size w V) := hb0.trans (hb1.mono hb0.size)
  have X : Hid (Box V w.heap.size 34 #[.slice h.a0 vs.length h.c0, .slice h.a1 ws.length h.c1]) := (show Box V0 w.heap.size 34 #[.slice h.a0 vs.length h.c0, .slice h.a1 ws.length h.c1] by rw [← hV0]; exact Box.new _ _ _).belowS hb1
  have Y : Hid (Box V V0.heap.size 34 #[.slice none 0 0, .slice none 0 0]) := by unfold Hid; rw [← hV]; exact Box.new _ _ _
  have l0 : w.heap.size < V0.heap.size := by rw [← hV0]; simp
  have l1 : V0.heap.size < V.heap.size := Y.out.lt
  have CK : Hid (∀ W, Below w.heap.size w W → Calls Tryd.prog 92 #[.slice h.a0 vs.length h.c0] W fun e w' => (∃ ha hc, e = .returned (.slice ha vs.length hc) ∧ w'.ownsRow W.heap.size 55 4 (.slice ha vs.length hc) vs.length (cellsK vs)) ∧ Below W.heap.size W w') := fun W hW => c_copyK h.a0 _ h.c0 vs W (R.out.1.below hW) f0 s0
  have CW : Hid (∀ W, Below w.heap.size w W → Calls Tryd.prog 93 #[.slice h.a1 ws.length h.c1] W fun e w' => (∃ ha hc, e = .returned (.slice ha ws.length hc) ∧ w'.ownsRow W.heap.size 59 2 (.slice ha ws.length hc) ws.length (cellsW ws)) ∧ Below W.heap.size W w') := fun W hW => c_copyW h.a1 _ h.c1 ws W (R.out.2.below hW) f1 s1
  obtain ⟨x0, x1⟩ := box2 X.out
  clear r hb0 hb1 s0 s1
  go_enter Tryd.func67, Tryd.ntmps67
  go_wp2_with fail
  go_region_with (first
    | (go_at_call 92
       refine (CK.out _ ?_).mono ?_
       · first | exact BW0 | exact below_drewN B.out _ | exact B.out
       rintro e wk ⟨⟨ka, kc, rfl, ok⟩, hbk⟩
       have BK0 : Below w.heap.size w wk := by first | exact BW0.trans (hbk.mono BW0.size) | exact (below_drewN B.out 1).trans (hbk.mono B.out.size) | exact B.out.trans (hbk.mono B.out.size)
       have XK : Box wk w.heap.size 34 #[.slice h.a0 vs.length h.c0, .slice h.a1 ws.length h.c1] := by first | exact XW.belowS hbk | exact Box.belowS (show Box V.drew w.heap.size 34 #[.slice h.a0 vs.length h.c0, .slice h.a1 ws.length h.c1] from X.out) hbk | exact X.out.belowS hbk
       have YK : Box wk V0.heap.size 34 #[.slice none 0 0, .slice none 0 0] := by first | exact YW.belowS hbk | exact Box.belowS (show Box V.drew V0.heap.size 34 #[.slice none 0 0, .slice none 0 0] from Y.out) hbk | exact Y.out.belowS hbk
       obtain ⟨k0, k1⟩ := box2 XK
       obtain ⟨y0, y1⟩ := box2 YK
       obtain ⟨t0, t1⟩ := thaw2 YK)
    | (go_at_call 93
       refine (CW.out _ ?_).mono ?_
       · first | exact BK0 | exact below_drewN B.out _ | exact B.out
       rintro e ww ⟨⟨wa, wc, rfl, ow⟩, hbw⟩
       have BW0 : Below w.heap.size w ww := by first | exact BK0.trans (hbw.mono BK0.size) | exact (below_drewN B.out 1).trans (hbw.mono B.out.size) | exact B.out.trans (hbw.mono B.out.size)
       have XW : Box ww w.heap.size 34 #[.slice h.a0 vs.length h.c0, .slice h.a1 ws.length h.c1] := by first | exact XK.belowS hbw | exact Box.belowS (show Box V.drew w.heap.size 34 #[.slice h.a0 vs.length h.c0, .slice h.a1 ws.length h.c1] from X.out) hbw | exact X.out.belowS hbw
       have YW : Box ww V0.heap.size 34 #[.slice none 0 0, .slice none 0 0] := by first | exact YK.belowS hbw | exact Box.belowS (show Box V.drew V0.heap.size 34 #[.slice none 0 0, .slice none 0 0] from Y.out) hbw | exact Y.out.belowS hbw
       obtain ⟨k0, k1⟩ := box2 XW
       obtain ⟨y0, y1⟩ := box2 YW
       obtain ⟨t0, t1⟩ := thaw2 YW))
  all_goals first
    | (have OK2 := own_below ok hbw
       have ra := own_rng ok
       have rb := own_rng ow
       have hs1 : V.heap.size ≤ wk.heap.size := hbk.size
       have hs2 : wk.heap.size ≤ ww.heap.size := hbw.size
       have O6 : Hid (OwnL (put2 ww V0.heap.size (.slice ka vs.length kc) (.slice wa ws.length wc)) w.heap.size ⟨ka, kc, wa, wc⟩ vs ws) := ⟨(own_inn OK2 (put2_inn _ _) (fun b hb => .inr (by have h1 : V.heap.size ≤ b := (ra b hb).1; omega))).down B.out.size, (own_inn ow (put2_inn _ _) (fun b hb => .inr (by have h1 : wk.heap.size ≤ b := (rb b hb).1; omega))).down BK0.size, fun b hb hb' => by have h1 : b < wk.heap.size := (ra b hb).2; have h2 : wk.heap.size ≤ b := (rb b hb').1; omega⟩
       have Y6 := put2_box YW (.slice ka vs.length kc) (.slice wa ws.length wc)
       have B6 := put2_below BW0 (show w.heap.size ≤ V0.heap.size by omega) (.slice ka vs.length kc) (.slice wa ws.length wc)
       clear ok ow OK2 ra rb hbk hbw XK XW YK YW BK0 BW0
       go_wp2
       exact retL Tryd.results67 rfl rfl Y6 ⟨⟨⟨ka, kc, wa, wc⟩, rfl, O6.out⟩, B6⟩)
    | (have OW2 := own_below ow hbk
       have ra := own_rng ok
       have rb := own_rng ow
       have hs1 : V.heap.size ≤ ww.heap.size := hbw.size
       have hs2 : ww.heap.size ≤ wk.heap.size := hbk.size
       have O6 : Hid (OwnL (put2 wk V0.heap.size (.slice ka vs.length kc) (.slice wa ws.length wc)) w.heap.size ⟨ka, kc, wa, wc⟩ vs ws) := ⟨(own_inn ok (put2_inn _ _) (fun b hb => .inr (by have h1 : ww.heap.size ≤ b := (ra b hb).1; omega))).down BW0.size, (own_inn OW2 (put2_inn _ _) (fun b hb => .inr (by have h1 : V.heap.size ≤ b := (rb b hb).1; omega))).down B.out.size, fun b hb hb' => by have h1 : ww.heap.size ≤ b := (ra b hb).1; have h2 : b < ww.heap.size := (rb b hb').2; omega⟩
       have Y6 := put2_box YK (.slice ka vs.length kc) (.slice wa ws.length wc)
       have B6 := put2_below BK0 (show w.heap.size ≤ V0.heap.size by omega) (.slice ka vs.length kc) (.slice wa ws.length wc)
       clear ok ow OW2 ra rb hbk hbw XK XW YK YW BK0 BW0
       go_wp2
       exact retL Tryd.results67 rfl rfl Y6 ⟨⟨⟨ka, kc, wa, wc⟩, rfl, O6.out⟩, B6⟩)

end Go.Proofs.YtmjacoocnkcilaaDoor
