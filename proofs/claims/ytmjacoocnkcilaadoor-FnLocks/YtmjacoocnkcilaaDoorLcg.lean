/-
  A copy of one's own of locks: the specification's walk.
-/
import Derived.Test.YtmjacoocnkcilaaDoorLca
import Derived.Deep.RegionWith
import Derived.Deep.AppendLies
import Derived.Deep.RegionLawGrows
namespace Go.Proofs.YtmjacoocnkcilaaDoor
open Go Go.RowKit
attribute [local go_sem ↓] Go.wp_at_zero Go.wp_at_succ

theorem step_app_any {P : Program} (w : World) {ops : Array Oper} {o : Oper} {a : Act} {K : Act → World → Prop} {Q : Exit → Act → World → Prop} {E : Prop} (hgd : o.guard = none) (s x : Operand) (t : TypeId)
    (ho : o.op = .call { callee := .builtin .append, args := #[s, x], argTypes := #[t, t] })
    (base : Nat) (e : TypeId) (i : TypeInfo) (z : Value) (size bytes : Nat) (ht : P.underlying t = some (.slice e)) (hi : P.info? e = some i) (hz : i.zero = some z)
    (hsize : i.size = size) (hby : i.bytes = bytes) (hzs : z.cells.size = size) (hsz : 0 < size)
    (v : Value) (n : Nat) (xs : List Value) (hs : a.eval s = v) (hown : w.ownsRow base e size v n xs)
    (ax : Option Addr) (m c : Nat) (news : List Value) (hx : a.eval x = .slice ax m c) (hnone : ax = none → m = 0 ∧ c = 0) (hl : news.length = m * size) (hnews : ∀ ad, ax = some ad → ∀ j u, news[j]? = some u → w.cell? (ad.add j) = some u) (h1 : ∀ u ∈ news, u.oneCell' = true)
    (h63 : n + m ≤ maxLen) (hbytes : (n + m) * bytes ≤ 140737488355328) (hbase : base ≤ w.heap.size)
    (h : ∀ a' c' w', w'.ownsRow base e size (.slice a' (n + m) c') (n + m) (xs ++ news) → w.grownBy w' v.ownBlock → (∀ g, ob a' = some g → v.ownBlock = some g ∨ g = w.heap.size) → K (a.put o.dst (.slice a' (n + m) c')) w') :
    if Region.wanted o (yielded ops a.tmps) = true then Oper.wp P o a w K Q else E := by
  have hw : Region.wanted o (yielded ops a.tmps) = true := by simp [Region.wanted, hgd]
  rw [if_pos hw]
  cases ax with
  | none =>
    obtain ⟨rfl, rfl⟩ := hnone rfl
    have hn : news = [] := List.eq_nil_of_length_eq_zero (by simpa using hl)
    subst hn
    obtain ⟨a', c', rfl, _⟩ := own_slc hown
    have hrun := run_append_owned_none (P := P) (w := w) base t o.type e i size ht hi _ n xs hown
    unfold Oper.wp execOp
    simp only [ho, resolve, invoke, builtin, Sem.run_bind, Sem.run_pure, Result.andThen_ok, List.map_toArray, List.map_cons, List.map_nil, hs, hx, hrun]
    exact h a' c' w (by simpa using hown) (World.grownBy.refl _ _) (fun g e => .inl (by rw [ob_slice]; exact e))
  | some ad =>
    obtain ⟨v', w', hr, hown', hgr, _, hblk⟩ := run_append_own_at (P := P) w base t o.type e i z size bytes ht hi hz hsize hby hzs hsz v n xs hown ad m c news hl (hnews ad rfl) h1 h63 hbytes hbase
    obtain ⟨a', c', rfl, _⟩ := own_slc hown'
    rw [ob_slice] at hblk
    unfold Oper.wp execOp
    simp only [ho, resolve, invoke, builtin, Sem.run_bind, Sem.run_pure, Result.andThen_ok, List.map_toArray, List.map_cons, List.map_nil, hs, hx, hr]
    exact h a' c' w' hown' hgr (fun g e => hblk.elim (fun k => .inl (k ▸ e)) (fun k => .inr (Option.some.inj (e.symm.trans k))))
theorem emp_own {w : World} {g base size : Nat} {t : TypeId} (h : Box w g t #[]) (hb : base ≤ g) : w.ownsRow base t size (.slice (some ⟨g, 0, none⟩) 0 0) 0 [] := by
  refine ⟨by simp, .inr ⟨g, 0, #[], rfl, hb, ?_, ?_⟩⟩
  all_goals first | exact h | simp
set_option maxRecDepth 100000 in
set_option maxHeartbeats 8000000 in
theorem c_l06Own (h : HL) (vs : List LK) (ws : List WK) (w : World) (r : RdL w h vs ws) (f0 : vs.length ≤ 1048576) (f1 : ws.length ≤ 1048576) (s0 : h.a0 = none → h.c0 = 0) (s1 : h.a1 = none → h.c1 = 0) :
    Calls Tryd.prog 91 #[.agg #[.slice h.a0 vs.length h.c0, .slice h.a1 ws.length h.c1]] w fun e w' => (∃ h' : HL, e = .returned (.agg #[.slice h'.a0 vs.length h'.c0, .slice h'.a1 ws.length h'.c1]) ∧ OwnL w' w.heap.size h' vs ws) ∧ Below w.heap.size w w' := by
  have R : Hid (RdL w h vs ws) := r
  obtain ⟨i0, hi, hz0, hz1, hz2⟩ := info_parts infoK
  obtain ⟨j0, hj, jz0, jz1, jz2⟩ := info_parts infoW
  have N0 : Hid (h.a0 = none → vs.length = 0 ∧ h.c0 = 0) := fun e => by
    refine ⟨?_, s0 e⟩
    rcases Nat.eq_zero_or_pos vs.length with h0 | h0
    · exact h0
    · obtain ⟨b, off, e', _⟩ := r.1.2 h0
      rw [e] at e'
      cases e'
  have N1 : Hid (h.a1 = none → ws.length = 0 ∧ h.c1 = 0) := fun e => by
    refine ⟨?_, s1 e⟩
    rcases Nat.eq_zero_or_pos ws.length with h0 | h0
    · exact h0
    · obtain ⟨b, off, e', _⟩ := r.2.2 h0
      rw [e] at e'
      cases e'
  obtain ⟨V0, hV0⟩ : ∃ V, w.alloc (.cells #[.slice h.a0 vs.length h.c0, .slice h.a1 ws.length h.c1] 34) = V := ⟨_, rfl⟩
  obtain ⟨V, hV⟩ : ∃ V, V0.alloc (.cells #[.slice none 0 0, .slice none 0 0] 34) = V := ⟨_, rfl⟩
  have hb0 : Below w.heap.size w V0 := by rw [← hV0]; exact (Below.refl _ _).alloc (Nat.le_refl _) _
  have hb1 : Below V0.heap.size V0 V := by rw [← hV]; exact (Below.refl _ _).alloc (Nat.le_refl _) _
  have BV : Hid (Below w.heap.size w V) := hb0.trans (hb1.mono hb0.size)
  have XV : Hid (Box V w.heap.size 34 #[.slice h.a0 vs.length h.c0, .slice h.a1 ws.length h.c1]) := (show Box V0 w.heap.size 34 #[.slice h.a0 vs.length h.c0, .slice h.a1 ws.length h.c1] by rw [← hV0]; exact Box.new _ _ _).belowS hb1
  have YV : Hid (Box V V0.heap.size 34 #[.slice none 0 0, .slice none 0 0]) := by unfold Hid; rw [← hV]; exact Box.new _ _ _
  have l0 : w.heap.size < V0.heap.size := by rw [← hV0]; simp
  have l1 : V0.heap.size < V.heap.size := YV.out.lt
  obtain ⟨x0, x1⟩ := box2 XV.out
  obtain ⟨VK, hVK⟩ : ∃ Q, V.alloc (.cells #[] 55) = Q := ⟨_, rfl⟩
  have bVK : Below V.heap.size V VK := by rw [← hVK]; exact (Below.refl _ _).alloc (Nat.le_refl _) _
  have EVK : Hid (Box VK V.heap.size 55 #[]) := by unfold Hid; rw [← hVK]; exact Box.new _ _ _
  have BVK : Hid (Below w.heap.size w VK) := BV.out.trans (bVK.mono BV.out.size)
  have XVK : Hid (Box VK w.heap.size 34 #[.slice h.a0 vs.length h.c0, .slice h.a1 ws.length h.c1]) := XV.out.belowS bVK
  have YVK : Hid (Box VK V0.heap.size 34 #[.slice none 0 0, .slice none 0 0]) := YV.out.belowS bVK
  have lVK : V.heap.size < VK.heap.size := EVK.out.lt
  obtain ⟨x0VK, x1VK⟩ := box2 XVK.out
  obtain ⟨VW, hVW⟩ : ∃ Q, V.alloc (.cells #[] 59) = Q := ⟨_, rfl⟩
  have bVW : Below V.heap.size V VW := by rw [← hVW]; exact (Below.refl _ _).alloc (Nat.le_refl _) _
  have EVW : Hid (Box VW V.heap.size 59 #[]) := by unfold Hid; rw [← hVW]; exact Box.new _ _ _
  have BVW : Hid (Below w.heap.size w VW) := BV.out.trans (bVW.mono BV.out.size)
  have XVW : Hid (Box VW w.heap.size 34 #[.slice h.a0 vs.length h.c0, .slice h.a1 ws.length h.c1]) := XV.out.belowS bVW
  have YVW : Hid (Box VW V0.heap.size 34 #[.slice none 0 0, .slice none 0 0]) := YV.out.belowS bVW
  have lVW : V.heap.size < VW.heap.size := EVW.out.lt
  obtain ⟨x0VW, x1VW⟩ := box2 XVW.out
  obtain ⟨VKW, hVKW⟩ : ∃ Q, VK.alloc (.cells #[] 59) = Q := ⟨_, rfl⟩
  have bVKW : Below VK.heap.size VK VKW := by rw [← hVKW]; exact (Below.refl _ _).alloc (Nat.le_refl _) _
  have EVKW : Hid (Box VKW VK.heap.size 59 #[]) := by unfold Hid; rw [← hVKW]; exact Box.new _ _ _
  have BVKW : Hid (Below w.heap.size w VKW) := BVK.out.trans (bVKW.mono BVK.out.size)
  have XVKW : Hid (Box VKW w.heap.size 34 #[.slice h.a0 vs.length h.c0, .slice h.a1 ws.length h.c1]) := XVK.out.belowS bVKW
  have YVKW : Hid (Box VKW V0.heap.size 34 #[.slice none 0 0, .slice none 0 0]) := YVK.out.belowS bVKW
  have lVKW : VK.heap.size < VKW.heap.size := EVKW.out.lt
  obtain ⟨x0VKW, x1VKW⟩ := box2 XVKW.out
  obtain ⟨VWK, hVWK⟩ : ∃ Q, VW.alloc (.cells #[] 55) = Q := ⟨_, rfl⟩
  have bVWK : Below VW.heap.size VW VWK := by rw [← hVWK]; exact (Below.refl _ _).alloc (Nat.le_refl _) _
  have EVWK : Hid (Box VWK VW.heap.size 55 #[]) := by unfold Hid; rw [← hVWK]; exact Box.new _ _ _
  have BVWK : Hid (Below w.heap.size w VWK) := BVW.out.trans (bVWK.mono BVW.out.size)
  have XVWK : Hid (Box VWK w.heap.size 34 #[.slice h.a0 vs.length h.c0, .slice h.a1 ws.length h.c1]) := XVW.out.belowS bVWK
  have YVWK : Hid (Box VWK V0.heap.size 34 #[.slice none 0 0, .slice none 0 0]) := YVW.out.belowS bVWK
  have lVWK : VW.heap.size < VWK.heap.size := EVWK.out.lt
  obtain ⟨x0VWK, x1VWK⟩ := box2 XVWK.out
  have EVK2 : Hid (Box VKW V.heap.size 55 #[]) := EVK.out.belowS bVKW
  have EVW2 : Hid (Box VWK V.heap.size 59 #[]) := EVW.out.belowS bVWK
  clear r hb0 hb1 s0 s1 bVK bVW bVKW bVWK
  go_enter Tryd.func91, Tryd.ntmps91
  go_wp2_with fail
  go_region_law (first
    | (refine step_app_any _ (by rfl) (.tmp 3) (.tmp 5) 31 (by rfl) w.heap.size 55 i0 (.agg #[.int .i64 0, .int .i64 0, .int .i64 0, .int .i64 0]) 4 32 Tryd.underlying31 hi hz0 hz1 hz2 rfl (by omega) (.slice (some ⟨V.heap.size, 0, none⟩) 0 0) 0 [] (by rfl) (by exact emp_own EVK.out (by omega)) h.a0 vs.length h.c0 (cellsK vs) (by rfl) N0.out (by rw [cellsK_len]) (by exact srcK (R.out.1.below (Below.drew BVK.out))) (cellsK_one vs) (by unfold maxLen; omega) (by omega) (by exact BVK.out.size) ?_
       intro ka kc w6 ox hgx hax
       rw [Nat.zero_add, List.nil_append] at ox
       rw [ob_slice] at hgx hax
       have BF : Hid (Below w.heap.size w w6) := (Below.drew BVK.out).grown hgx BVK.out.size (fun j hj => by have e' : V.heap.size = j := Option.some.inj hj; omega)
       have XF : Hid (Box w6 w.heap.size 34 #[.slice h.a0 vs.length h.c0, .slice h.a1 ws.length h.c1]) := Box.grown (show Box VK.drew w.heap.size 34 #[.slice h.a0 vs.length h.c0, .slice h.a1 ws.length h.c1] from XVK.out) hgx (fun e => by have e' : V.heap.size = w.heap.size := Option.some.inj e; omega)
       have YF : Hid (Box w6 V0.heap.size 34 #[.slice none 0 0, .slice none 0 0]) := Box.grown (show Box VK.drew V0.heap.size 34 #[.slice none 0 0, .slice none 0 0] from YVK.out) hgx (fun e => by have e' : V.heap.size = V0.heap.size := Option.some.inj e; omega)
       have OF : Hid (w6.ownsRow w.heap.size 55 4 (.slice ka vs.length kc) vs.length (cellsK vs)) := ox
       have sF : VK.heap.size ≤ w6.heap.size := hgx.size
       have RF : Hid (∀ b, ob ka = some b → V.heap.size ≤ b) := fun b hb => by
         rcases hax b hb with e | e
         · have e' : V.heap.size = b := Option.some.inj e
           omega
         · have e' : b = VK.heap.size := e
           omega
       clear ox hgx hax
       obtain ⟨w6n, hw6n⟩ : ∃ Q, w6.alloc (.cells #[] 59) = Q := ⟨_, rfl⟩
       have hbn : Below w6.heap.size w6 w6n := by rw [← hw6n]; exact (Below.refl _ _).alloc (Nat.le_refl _) _
       have EN : Hid (Box w6n w6.heap.size 59 #[]) := by unfold Hid; rw [← hw6n]; exact Box.new _ _ _
       have BN : Hid (Below w.heap.size w w6n) := BF.out.trans (hbn.mono BF.out.size)
       have XN : Hid (Box w6n w.heap.size 34 #[.slice h.a0 vs.length h.c0, .slice h.a1 ws.length h.c1]) := XF.out.belowS hbn
       have YN : Hid (Box w6n V0.heap.size 34 #[.slice none 0 0, .slice none 0 0]) := YF.out.belowS hbn
       have ON : Hid (w6n.ownsRow w.heap.size 55 4 (.slice ka vs.length kc) vs.length (cellsK vs)) := own_below OF.out hbn
       have DN : Hid (∀ b, ob ka = some b → b ≠ w6.heap.size) := fun b hb => by have := own_rng OF.out b hb; omega
       have sN : w6.heap.size < w6n.heap.size := EN.out.lt
       clear hbn
       obtain ⟨x0F, x1F⟩ := box2 XF.out
       obtain ⟨x0N, x1N⟩ := box2 XN.out)
    | (refine step_app_any _ (by rfl) (.tmp 3) (.tmp 5) 31 (by rfl) w.heap.size 55 i0 (.agg #[.int .i64 0, .int .i64 0, .int .i64 0, .int .i64 0]) 4 32 Tryd.underlying31 hi hz0 hz1 hz2 rfl (by omega) (.slice (some ⟨V.heap.size, 0, none⟩) 0 0) 0 [] (by rfl) (by exact emp_own EVK2.out (by omega)) h.a0 vs.length h.c0 (cellsK vs) (by rfl) N0.out (by rw [cellsK_len]) (by exact srcK (R.out.1.below (Below.drew BVKW.out))) (cellsK_one vs) (by unfold maxLen; omega) (by omega) (by exact BVKW.out.size) ?_
       intro ka kc w6 ox hgx hax
       rw [Nat.zero_add, List.nil_append] at ox
       rw [ob_slice] at hgx hax
       have BF : Hid (Below w.heap.size w w6) := (Below.drew BVKW.out).grown hgx BVKW.out.size (fun j hj => by have e' : V.heap.size = j := Option.some.inj hj; omega)
       have XF : Hid (Box w6 w.heap.size 34 #[.slice h.a0 vs.length h.c0, .slice h.a1 ws.length h.c1]) := Box.grown (show Box VKW.drew w.heap.size 34 #[.slice h.a0 vs.length h.c0, .slice h.a1 ws.length h.c1] from XVKW.out) hgx (fun e => by have e' : V.heap.size = w.heap.size := Option.some.inj e; omega)
       have YF : Hid (Box w6 V0.heap.size 34 #[.slice none 0 0, .slice none 0 0]) := Box.grown (show Box VKW.drew V0.heap.size 34 #[.slice none 0 0, .slice none 0 0] from YVKW.out) hgx (fun e => by have e' : V.heap.size = V0.heap.size := Option.some.inj e; omega)
       have OF : Hid (w6.ownsRow w.heap.size 55 4 (.slice ka vs.length kc) vs.length (cellsK vs)) := ox
       have sF : VKW.heap.size ≤ w6.heap.size := hgx.size
       have RF : Hid (∀ b, ob ka = some b → V.heap.size ≤ b) := fun b hb => by
         rcases hax b hb with e | e
         · have e' : V.heap.size = b := Option.some.inj e
           omega
         · have e' : b = VKW.heap.size := e
           omega
       have EO : Hid (Box w6 VK.heap.size 59 #[]) := Box.grown (show Box VKW.drew VK.heap.size 59 #[] from EVKW.out) hgx (fun e => by have e' : V.heap.size = VK.heap.size := Option.some.inj e; omega)
       have DF : Hid (∀ b, ob ka = some b → b ≠ VK.heap.size) := fun b hb => by
         rcases hax b hb with e | e
         · have e' : V.heap.size = b := Option.some.inj e
           omega
         · have e' : b = VKW.heap.size := e
           omega
       clear ox hgx hax
       obtain ⟨x0F, x1F⟩ := box2 XF.out)
    | (refine step_app_any _ (by rfl) (.tmp 3) (.tmp 5) 31 (by rfl) w.heap.size 55 i0 (.agg #[.int .i64 0, .int .i64 0, .int .i64 0, .int .i64 0]) 4 32 Tryd.underlying31 hi hz0 hz1 hz2 rfl (by omega) (.slice (some ⟨VW.heap.size, 0, none⟩) 0 0) 0 [] (by rfl) (by exact emp_own EVWK.out (by omega)) h.a0 vs.length h.c0 (cellsK vs) (by rfl) N0.out (by rw [cellsK_len]) (by exact srcK (R.out.1.below (Below.drew BVWK.out))) (cellsK_one vs) (by unfold maxLen; omega) (by omega) (by exact BVWK.out.size) ?_
       intro ka kc w6 ox hgx hax
       rw [Nat.zero_add, List.nil_append] at ox
       rw [ob_slice] at hgx hax
       have BF : Hid (Below w.heap.size w w6) := (Below.drew BVWK.out).grown hgx BVWK.out.size (fun j hj => by have e' : VW.heap.size = j := Option.some.inj hj; omega)
       have XF : Hid (Box w6 w.heap.size 34 #[.slice h.a0 vs.length h.c0, .slice h.a1 ws.length h.c1]) := Box.grown (show Box VWK.drew w.heap.size 34 #[.slice h.a0 vs.length h.c0, .slice h.a1 ws.length h.c1] from XVWK.out) hgx (fun e => by have e' : VW.heap.size = w.heap.size := Option.some.inj e; omega)
       have YF : Hid (Box w6 V0.heap.size 34 #[.slice none 0 0, .slice none 0 0]) := Box.grown (show Box VWK.drew V0.heap.size 34 #[.slice none 0 0, .slice none 0 0] from YVWK.out) hgx (fun e => by have e' : VW.heap.size = V0.heap.size := Option.some.inj e; omega)
       have OF : Hid (w6.ownsRow w.heap.size 55 4 (.slice ka vs.length kc) vs.length (cellsK vs)) := ox
       have sF : VWK.heap.size ≤ w6.heap.size := hgx.size
       have RF : Hid (∀ b, ob ka = some b → V.heap.size ≤ b) := fun b hb => by
         rcases hax b hb with e | e
         · have e' : VW.heap.size = b := Option.some.inj e
           omega
         · have e' : b = VWK.heap.size := e
           omega
       have EO : Hid (Box w6 V.heap.size 59 #[]) := Box.grown (show Box VWK.drew V.heap.size 59 #[] from EVW2.out) hgx (fun e => by have e' : VW.heap.size = V.heap.size := Option.some.inj e; omega)
       have DF : Hid (∀ b, ob ka = some b → b ≠ V.heap.size) := fun b hb => by
         rcases hax b hb with e | e
         · have e' : VW.heap.size = b := Option.some.inj e
           omega
         · have e' : b = VWK.heap.size := e
           omega
       clear ox hgx hax
       obtain ⟨x0F, x1F⟩ := box2 XF.out)
    | (refine step_app_any _ (by rfl) (.tmp 7) (.tmp 9) 32 (by rfl) w.heap.size 59 j0 (.agg #[.int .i64 0, .int .i64 0]) 2 16 Tryd.underlying32 hj jz0 jz1 jz2 rfl (by omega) (.slice (some ⟨VK.heap.size, 0, none⟩) 0 0) 0 [] (by rfl) (by exact emp_own EO.out (by omega)) h.a1 ws.length h.c1 (cellsW ws) (by rfl) N1.out (by rw [cellsW_len]) (by exact srcW (R.out.2.below BF.out)) (cellsW_one ws) (by unfold maxLen; omega) (by omega) (by exact BF.out.size) ?_
       intro wa wc w7 ox hgx hax
       rw [Nat.zero_add, List.nil_append] at ox
       rw [ob_slice] at hgx hax
       have B7 : Hid (Below w.heap.size w w7) := BF.out.grown hgx BF.out.size (fun j hj => by have e' : VK.heap.size = j := Option.some.inj hj; omega)
       have Y7 : Hid (Box w7 V0.heap.size 34 #[.slice none 0 0, .slice none 0 0]) := Box.grown YF.out hgx (fun e => by have e' : VK.heap.size = V0.heap.size := Option.some.inj e; omega)
       have O7W : Hid (w7.ownsRow w.heap.size 59 2 (.slice wa ws.length wc) ws.length (cellsW ws)) := ox
       have O7K : Hid (w7.ownsRow w.heap.size 55 4 (.slice ka vs.length kc) vs.length (cellsK vs)) := own_same OF.out (fun k hk => hgx.block k (by rw [ob_slice] at hk; exact (own_rng OF.out k hk).2) (fun e => by rw [ob_slice] at hk; have e' : k = VK.heap.size := Option.some.inj e; exact DF.out k hk e'))
       have R7K : Hid (∀ b, ob ka = some b → V.heap.size ≤ b) := RF
       have R7W : Hid (∀ b, ob wa = some b → V.heap.size ≤ b) := fun b hb => by
         rcases hax b hb with e | e
         · have e' : VK.heap.size = b := Option.some.inj e
           omega
         · omega
       have D7 : Hid (∀ b, ob ka = some b → ob wa ≠ some b) := fun b hb hb' => by
         have h1 := own_rng OF.out b hb
         rcases hax b hb' with e | e
         · have e' : VK.heap.size = b := Option.some.inj e
           exact DF.out b hb e'.symm
         · omega
       clear ox hgx hax
       obtain ⟨y0, y1⟩ := box2 Y7.out
       obtain ⟨t0, t1⟩ := thaw2 Y7.out)
    | (refine step_app_any _ (by rfl) (.tmp 7) (.tmp 9) 32 (by rfl) w.heap.size 59 j0 (.agg #[.int .i64 0, .int .i64 0]) 2 16 Tryd.underlying32 hj jz0 jz1 jz2 rfl (by omega) (.slice (some ⟨V.heap.size, 0, none⟩) 0 0) 0 [] (by rfl) (by exact emp_own EO.out (by omega)) h.a1 ws.length h.c1 (cellsW ws) (by rfl) N1.out (by rw [cellsW_len]) (by exact srcW (R.out.2.below BF.out)) (cellsW_one ws) (by unfold maxLen; omega) (by omega) (by exact BF.out.size) ?_
       intro wa wc w7 ox hgx hax
       rw [Nat.zero_add, List.nil_append] at ox
       rw [ob_slice] at hgx hax
       have B7 : Hid (Below w.heap.size w w7) := BF.out.grown hgx BF.out.size (fun j hj => by have e' : V.heap.size = j := Option.some.inj hj; omega)
       have Y7 : Hid (Box w7 V0.heap.size 34 #[.slice none 0 0, .slice none 0 0]) := Box.grown YF.out hgx (fun e => by have e' : V.heap.size = V0.heap.size := Option.some.inj e; omega)
       have O7W : Hid (w7.ownsRow w.heap.size 59 2 (.slice wa ws.length wc) ws.length (cellsW ws)) := ox
       have O7K : Hid (w7.ownsRow w.heap.size 55 4 (.slice ka vs.length kc) vs.length (cellsK vs)) := own_same OF.out (fun k hk => hgx.block k (by rw [ob_slice] at hk; exact (own_rng OF.out k hk).2) (fun e => by rw [ob_slice] at hk; have e' : k = V.heap.size := Option.some.inj e; exact DF.out k hk e'))
       have R7K : Hid (∀ b, ob ka = some b → V.heap.size ≤ b) := RF
       have R7W : Hid (∀ b, ob wa = some b → V.heap.size ≤ b) := fun b hb => by
         rcases hax b hb with e | e
         · have e' : V.heap.size = b := Option.some.inj e
           omega
         · omega
       have D7 : Hid (∀ b, ob ka = some b → ob wa ≠ some b) := fun b hb hb' => by
         have h1 := own_rng OF.out b hb
         rcases hax b hb' with e | e
         · have e' : V.heap.size = b := Option.some.inj e
           exact DF.out b hb e'.symm
         · omega
       clear ox hgx hax
       obtain ⟨y0, y1⟩ := box2 Y7.out
       obtain ⟨t0, t1⟩ := thaw2 Y7.out)
    | (refine step_app_any _ (by rfl) (.tmp 7) (.tmp 9) 32 (by rfl) w.heap.size 59 j0 (.agg #[.int .i64 0, .int .i64 0]) 2 16 Tryd.underlying32 hj jz0 jz1 jz2 rfl (by omega) (.slice (some ⟨w6.heap.size, 0, none⟩) 0 0) 0 [] (by rfl) (by exact emp_own EN.out (by omega)) h.a1 ws.length h.c1 (cellsW ws) (by rfl) N1.out (by rw [cellsW_len]) (by exact srcW (R.out.2.below BN.out)) (cellsW_one ws) (by unfold maxLen; omega) (by omega) (by exact BN.out.size) ?_
       intro wa wc w7 ox hgx hax
       rw [Nat.zero_add, List.nil_append] at ox
       rw [ob_slice] at hgx hax
       have B7 : Hid (Below w.heap.size w w7) := BN.out.grown hgx BN.out.size (fun j hj => by have e' : w6.heap.size = j := Option.some.inj hj; omega)
       have Y7 : Hid (Box w7 V0.heap.size 34 #[.slice none 0 0, .slice none 0 0]) := Box.grown YN.out hgx (fun e => by have e' : w6.heap.size = V0.heap.size := Option.some.inj e; omega)
       have O7W : Hid (w7.ownsRow w.heap.size 59 2 (.slice wa ws.length wc) ws.length (cellsW ws)) := ox
       have O7K : Hid (w7.ownsRow w.heap.size 55 4 (.slice ka vs.length kc) vs.length (cellsK vs)) := own_same ON.out (fun k hk => hgx.block k (by rw [ob_slice] at hk; exact (own_rng ON.out k hk).2) (fun e => by rw [ob_slice] at hk; have e' : k = w6.heap.size := Option.some.inj e; exact DN.out k hk e'))
       have R7K : Hid (∀ b, ob ka = some b → V.heap.size ≤ b) := RF
       have R7W : Hid (∀ b, ob wa = some b → V.heap.size ≤ b) := fun b hb => by
         rcases hax b hb with e | e
         · have e' : w6.heap.size = b := Option.some.inj e
           omega
         · omega
       have D7 : Hid (∀ b, ob ka = some b → ob wa ≠ some b) := fun b hb hb' => by
         have h1 := own_rng ON.out b hb
         rcases hax b hb' with e | e
         · have e' : w6.heap.size = b := Option.some.inj e
           exact DN.out b hb e'.symm
         · omega
       clear ox hgx hax
       obtain ⟨y0, y1⟩ := box2 Y7.out
       obtain ⟨t0, t1⟩ := thaw2 Y7.out)
    )
  all_goals
    have ra := own_rng O7K.out
    have rb := own_rng O7W.out
    have O8 : Hid (OwnL (put2 w7 V0.heap.size (.slice ka vs.length kc) (.slice wa ws.length wc)) w.heap.size ⟨ka, kc, wa, wc⟩ vs ws) := ⟨own_inn O7K.out (put2_inn _ _) (fun b hb => .inr (by have := R7K.out b hb; omega)), own_inn O7W.out (put2_inn _ _) (fun b hb => .inr (by have := R7W.out b hb; omega)), D7.out⟩
    have Y8 := put2_box Y7.out (.slice ka vs.length kc) (.slice wa ws.length wc)
    have B8 := put2_below B7.out (show w.heap.size ≤ V0.heap.size by omega) (.slice ka vs.length kc) (.slice wa ws.length wc)
    clear ra rb
    go_wp2
    exact retL Tryd.results91 rfl rfl Y8 ⟨⟨⟨ka, kc, wa, wc⟩, rfl, O8.out⟩, B8⟩

end Go.Proofs.YtmjacoocnkcilaaDoor
