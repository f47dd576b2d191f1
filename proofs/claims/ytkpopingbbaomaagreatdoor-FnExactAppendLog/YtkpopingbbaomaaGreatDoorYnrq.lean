/-
  The program's AppendLog.
-/
import Derived.Test.YtkpopingbbaomaaGreatDoorYnqq
import Derived.Test.YtkpopingbbaomaaGreatDoorYnnq
namespace Go.Proofs.YtkpopingbbaomaaGreatDoor
open Go Go.RowKit
attribute [local go_sem ↓] Go.wp_at_zero Go.wp_at_succ

/-- What a store answers with: a store's sayings, and a code. -/
structure AN where
  D : DD
  ep : Int
  L : List DR
  su : Int
  F : List FF
  ha : Int
  c : Int
def badN : AN := ⟨⟨[], [], false, []⟩, 0, [], 0, [], 0, 1⟩
def appN (ok : Bool) (D : DD) (ep : Int) (L : List DR) (su : Int) (F : List FF) (ha : Int) (r : DR) : AN :=
  if ok then ⟨D, ep, (addL ep L r).1, su, F, ha, (addL ep L r).2⟩ else badN
/-- The program's answer: memory of its own that says N. -/
def AnsNI (w : World) (N : AN) (e : Ending) (w' : World) : Prop :=
  (∃ (h : HD) (la : Option Addr) (lc : Nat) (fa : Option Addr) (fc : Nat) (gs : List FF), e = .returned (.tuple #[.agg #[.slice h.a0 h.n0 h.c0, .slice h.a1 h.n1 h.c1, .bool h.b, .slice h.a2 h.n2 h.c2, .int .i64 N.ep, .slice la N.L.length lc, .int .i64 N.su, .slice fa N.F.length fc, .int .i64 N.ha], .int .i64 N.c]) ∧ SameF N.F gs ∧ OwnT w' w.heap.size w'.heap.size h N.D la N.L.length lc N.L fa N.F.length fc gs) ∧ Below w.heap.size w w'
/-- The specification's answer: it is read as N, whatever becomes of what was there ahead of the call. -/
def AnsNS (w : World) (N : AN) (e : Ending) (w' : World) : Prop :=
  (∃ (h : HD) (la : Option Addr) (lc : Nat) (fa : Option Addr) (fc : Nat) (gs : List FF), e = .returned (.tuple #[.agg #[.slice h.a0 h.n0 h.c0, .slice h.a1 h.n1 h.c1, .bool h.b, .slice h.a2 h.n2 h.c2, .int .i64 N.ep, .slice la N.L.length lc, .int .i64 N.su, .slice fa N.F.length fc, .int .i64 N.ha], .int .i64 N.c]) ∧ SameF N.F gs ∧ ∀ V : World, w'.heap.size ≤ V.heap.size → (∀ g, w.heap.size ≤ g → g < w'.heap.size → V.heap[g]? = w'.heap[g]?) → RdD V h N.D ∧ RdQ V la N.L.length N.L ∧ RdF V fa N.F.length gs) ∧ Below w.heap.size w w'
theorem ownT_bad (w : World) (B : Nat) (hB : B ≤ w.heap.size) : OwnT w B w.heap.size ⟨none, 0, 0, none, 0, 0, false, none, 0, 0⟩ badN.D none 0 0 [] none 0 0 [] :=
  ⟨B, B, B, B, B, B, B, by omega, ⟨rfl, World.ownsRow_nil _ _ _ _, World.ownsRow_nil _ _ _ _, World.ownsRow_nil _ _ _ _, hB, (fun g e => by cases e), (fun g e => by cases e), (fun g e => by cases e)⟩, ⟨World.ownsRow_nil _ _ _ _, (fun g e => by cases e)⟩, ⟨World.ownsRow_nil _ _ _ _, (fun g e => by cases e)⟩, fun i h => absurd h (by simp), fun i j _ h => absurd h (by simp)⟩
theorem own_raise {w : World} {b b' e size n : Nat} {v : Value} {xs : List Value} (h : w.ownsRow b e size v n xs) (hb : ∀ g, v.ownBlock = some g → b' ≤ g) : w.ownsRow b' e size v n xs := by
  obtain ⟨h1, h2 | ⟨g, cap, cur, hv, h3, h4⟩⟩ := h
  · exact ⟨h1, .inl h2⟩
  · exact ⟨h1, .inr ⟨g, cap, cur, hv, hb g (by rw [hv]; rfl), h4⟩⟩
/-- A store of one's own whose log has been put elsewhere, or written on. -/
theorem OwnT.logged {w w' : World} {B : Nat} {h : HD} {D : DD} {la la' : Option Addr} {ln lc lc' : Nat} {L L' : List DR} {fa : Option Addr} {fn fc : Nat} {F : List FF} {g b0 : Nat} (o : OwnT w B w.heap.size h D la ln lc L fa fn fc F) (hg : g < B) (ho : w'.ownsRow b0 78 10 (.slice la' L'.length lc') L'.length (cellsQ L')) (hx : ∀ x, ob la' = some x → ob la = some x ∨ w.heap.size ≤ x) (hs : ∀ x, x < w.heap.size → x ≠ g → ob la ≠ some x → w'.heap[x]? = w.heap[x]?) (hz : w.heap.size ≤ w'.heap.size) : OwnT w' B w'.heap.size h D la' L'.length lc' L' fa fn fc F := by
  obtain ⟨d0, d1, l0, l1, f0, f1, p1, hh, o1, o2, o3, o4, o5⟩ := o
  have k1 : OwnD w' d0 d1 h D := o1.same hz fun x a1 a2 => hs x (by omega) (by omega) (fun e => by have := o2.2 x e; omega)
  have k3 : w'.ownsRow f0 142 5 (.slice fa fn fc) fn (cellsF F) := own_same o3.1 fun x e => by
    rw [ob_slice] at e
    have := o3.2 x e
    exact hs x (by omega) (by omega) (fun e' => by have := o2.2 x e'; omega)
  have k4 : OwnF w' f1 p1 F := o4.same hz fun x a1 a2 => hs x (by omega) (by omega) (fun e => by have := o2.2 x e; omega)
  by_cases hc : ∃ x, ob la' = some x ∧ w.heap.size ≤ x
  · obtain ⟨x, e, h2⟩ := hc
    have hone : ∀ y, ob la' = some y → w.heap.size ≤ y ∧ y < w'.heap.size := fun y ey => by
      have : y = x := Option.some.inj (ey.symm.trans e)
      have := (ho.lt y (by rw [ob_slice]; exact ey)).2
      omega
    exact ⟨d0, d1, w.heap.size, w'.heap.size, f0, f1, p1, by omega, k1, ⟨own_raise ho fun y ey => by rw [ob_slice] at ey; exact (hone y ey).1, hone⟩, ⟨k3, o3.2⟩, k4, o5⟩
  · have hone : ∀ y, ob la' = some y → l0 ≤ y ∧ y < l1 := fun y ey => by
      rcases hx y ey with q | q
      · exact o2.2 y q
      · exact absurd ⟨y, ey, q⟩ hc
    exact ⟨d0, d1, l0, l1, f0, f1, p1, by omega, k1, ⟨own_raise ho fun y ey => by rw [ob_slice] at ey; exact (hone y ey).1, hone⟩, ⟨k3, o3.2⟩, k4, o5⟩
theorem ret92 {fn : Func} {p u : Tmp} (h : fn.results = #[.cell p 46, .tmp u]) {R : Ending → World → Prop} {a : Act} {w : World} {r : Nat} {v0 v1 v2 v3 v4 v5 v6 v7 v8 v : Value} (hp : a.tmps.getD p undef = .pointer (some ⟨r, 0, none⟩)) (hu : a.tmps.getD u undef = v) (hd : a.defers = []) (hb : Box w r 46 #[v0, v1, v2, v3, v4, v5, v6, v7, v8]) (hR : R (.returned (.tuple #[.agg #[v0, v1, v2, v3, v4, v5, v6, v7, v8], v])) w) : bodyPost Tryz.prog fn R .ret a w := by
  refine bodyPost_ret ?_ hd hR
  have hp' : a.tmps[p]?.getD undef = .pointer (some ⟨r, 0, none⟩) := by simpa using hp
  have hu' : a.tmps[u]?.getD undef = v := by simpa using hu
  simp only [results, h]
  simp [hp', hu', asAddr, loadVar9 hb]
set_option maxRecDepth 100000 in
set_option maxHeartbeats 8000000 in
theorem c_implAL (h : HD) (D : DD) (ep : Int) (la : Option Addr) (ln lc : Nat) (L : List DR) (su : Int) (fa : Option Addr) (fn fc : Nat) (F : List FF) (ha : Int) (r : DR) (w : World) (rd : RdD w h D) (hk : HOK h) (rl : RdQ w la ln L) (hlk : la = none → lc = 0) (rf : RdF w fa fn F) (hfk : fa = none → fc = 0) (hpk : ∀ i, i < fn → G.SrcG (F.getD i zeroF).h) (hf : FitS D ln L fn F) (hbs : r.b.size ≤ 1048576) (has : r.a.size ≤ 1048576) (ht : TabH w) :
    Calls Tryz.prog 40 #[.agg #[.slice h.a0 h.n0 h.c0, .slice h.a1 h.n1 h.c1, .bool h.b, .slice h.a2 h.n2 h.c2, .int .i64 ep, .slice la ln lc, .int .i64 su, .slice fa fn fc, .int .i64 ha], .agg #[.int .i64 r.e, .int .i64 r.l, .int .i64 r.t, .int .i64 r.k, .int .i64 r.p, .int .i64 r.n, .int .i64 r.g, .int .i64 r.s, .string r.b, .string r.a]] w (AnsNI w (appN (okST D h.n0 ep ln L su fn F ha) D ep L su F ha r)) := by
  have hFl := rf.1
  have hLl := rl.1
  obtain ⟨V, hV⟩ : ∃ V, ((w.alloc (.cells #[.slice h.a0 h.n0 h.c0, .slice h.a1 h.n1 h.c1, .bool h.b, .slice h.a2 h.n2 h.c2, .int .i64 ep, .slice la ln lc, .int .i64 su, .slice fa fn fc, .int .i64 ha] 46)).alloc (.cells #[.int .i64 r.e, .int .i64 r.l, .int .i64 r.t, .int .i64 r.k, .int .i64 r.p, .int .i64 r.n, .int .i64 r.g, .int .i64 r.s, .string r.b, .string r.a] 78)).alloc (.cells #[.slice none 0 0, .slice none 0 0, .bool false, .slice none 0 0, .int .i64 0, .slice none 0 0, .int .i64 0, .slice none 0 0, .int .i64 0] 46) = V := ⟨_, rfl⟩
  have B0 : Hid (Below w.heap.size w V) := by unfold Hid; rw [← hV]; exact (((Below.refl _ _).alloc (Nat.le_refl _) _).alloc (by simp) _).alloc (by simp; omega) _
  have X0 : Hid (Box V w.heap.size 46 #[.slice h.a0 h.n0 h.c0, .slice h.a1 h.n1 h.c1, .bool h.b, .slice h.a2 h.n2 h.c2, .int .i64 ep, .slice la ln lc, .int .i64 su, .slice fa fn fc, .int .i64 ha]) := by unfold Hid; rw [← hV]; exact ((Box.new _ _ _).alloc _).alloc _
  have R0 : Hid (Box V (w.heap.size + 1) 78 #[.int .i64 r.e, .int .i64 r.l, .int .i64 r.t, .int .i64 r.k, .int .i64 r.p, .int .i64 r.n, .int .i64 r.g, .int .i64 r.s, .string r.b, .string r.a]) := by unfold Hid; rw [← hV]; exact (Box.new2 _ _ _ _).alloc _
  have Y0 : Hid (Box V (w.heap.size + 2) 46 #[.slice none 0 0, .slice none 0 0, .bool false, .slice none 0 0, .int .i64 0, .slice none 0 0, .int .i64 0, .slice none 0 0, .int .i64 0]) := by unfold Hid; rw [← hV]; have := Box.new2 (w.alloc (.cells #[.slice h.a0 h.n0 h.c0, .slice h.a1 h.n1 h.c1, .bool h.b, .slice h.a2 h.n2 h.c2, .int .i64 ep, .slice la ln lc, .int .i64 su, .slice fa fn fc, .int .i64 ha] 46)) (.cells #[.int .i64 r.e, .int .i64 r.l, .int .i64 r.t, .int .i64 r.k, .int .i64 r.p, .int .i64 r.n, .int .i64 r.g, .int .i64 r.s, .string r.b, .string r.a] 78) #[.slice none 0 0, .slice none 0 0, .bool false, .slice none 0 0, .int .i64 0, .slice none 0 0, .int .i64 0, .slice none 0 0, .int .i64 0] 46; simpa using this
  have C1 := c_implST h D ep la ln lc L su fa fn fc F ha V (rd.below B0.out) hf.1 (rl.below B0.out) hf.2.1.1 (fun v hv => by have := hf.2.1.2 v hv; unfold maxLen; omega) (rf.below B0.out) hf.2.2.1 hf.2.2.2 (ht.below B0.out)
  have C2 : Hid (∀ W, Below w.heap.size w W → Calls Tryz.prog 99 #[.agg #[.slice h.a0 h.n0 h.c0, .slice h.a1 h.n1 h.c1, .bool h.b, .slice h.a2 h.n2 h.c2, .int .i64 ep, .slice la ln lc, .int .i64 su, .slice fa fn fc, .int .i64 ha]] W fun e w' => (∃ (h' : HD) (la' : Option Addr) (lc' : Nat) (fa' : Option Addr) (fc' : Nat) (gs : List FF), e = .returned (.agg #[.slice h'.a0 h'.n0 h'.c0, .slice h'.a1 h'.n1 h'.c1, .bool h'.b, .slice h'.a2 h'.n2 h'.c2, .int .i64 ep, .slice la' ln lc', .int .i64 su, .slice fa' fn fc', .int .i64 ha]) ∧ SameF F gs ∧ OwnT w' W.heap.size w'.heap.size h' D la' ln lc' L fa' fn fc' gs) ∧ Below W.heap.size W w') := fun W hW => c_copyStore h D ep la ln lc L su fa fn fc F ha W (rd.below hW) hk (rl.below hW) hlk (rf.below hW) hfk hpk hf
  have hln : ln ≤ 1048576 := hf.2.1.1
  obtain ⟨ok, hok⟩ : ∃ ok, ok = okST D h.n0 ep ln L su fn F ha := ⟨_, rfl⟩
  rw [← hok] at C1 ⊢
  clear rd hk rl hlk rf hfk hpk hf ht hok
  obtain ⟨v0, v1, v2, v3, v4, v5, v6, v7, v8⟩ := box9 X0.out
  obtain ⟨q0, q1, q2, q3, q4, q5, q6, q7, q8, q9⟩ := box10 R0.out
  go_enter Tryz.func40, Tryz.ntmps40
  go_wp2_with fail
  refine C1.mono ?_
  rintro e w1 ⟨rfl, hb⟩
  have B1 : Hid (Below w.heap.size w w1) := B0.out.trans (hb.mono B0.out.size)
  have X1 : Hid (Box w1 w.heap.size 46 #[.slice h.a0 h.n0 h.c0, .slice h.a1 h.n1 h.c1, .bool h.b, .slice h.a2 h.n2 h.c2, .int .i64 ep, .slice la ln lc, .int .i64 su, .slice fa fn fc, .int .i64 ha]) := X0.out.belowS hb
  have R1 : Hid (Box w1 (w.heap.size + 1) 78 #[.int .i64 r.e, .int .i64 r.l, .int .i64 r.t, .int .i64 r.k, .int .i64 r.p, .int .i64 r.n, .int .i64 r.g, .int .i64 r.s, .string r.b, .string r.a]) := R0.out.belowS hb
  have Y1 : Hid (Box w1 (w.heap.size + 2) 46 #[.slice none 0 0, .slice none 0 0, .bool false, .slice none 0 0, .int .i64 0, .slice none 0 0, .int .i64 0, .slice none 0 0, .int .i64 0]) := Y0.out.belowS hb
  have s1 : w.heap.size + 2 < w1.heap.size := Y1.out.lt
  have s1' : w.heap.size < w1.heap.size := X1.out.lt
  clear hb X0 R0 Y0 B0 C1 hV v0 v1 v2 v3 v4 v5 v6 v7 v8 q0 q1 q2 q3 q4 q5 q6 q7 q8 q9
  obtain ⟨v0, v1, v2, v3, v4, v5, v6, v7, v8⟩ := box9 X1.out
  cases ok
  · obtain ⟨y0, y1, y2, y3, y4, y5, y6, y7, y8⟩ := box9 Y1.out
    have t0 := Y1.out.thaw 0
    have t1 := Y1.out.thaw 1
    have t2 := Y1.out.thaw 2
    have t3 := Y1.out.thaw 3
    have t4 := Y1.out.thaw 4
    have t5 := Y1.out.thaw 5
    have t6 := Y1.out.thaw 6
    have t7 := Y1.out.thaw 7
    have t8 := Y1.out.thaw 8
    go_wp2
    refine ret92 Tryz.results40 rfl rfl rfl (put9_box Y1.out _ _ _ _ _ _ _ _ _) ⟨⟨⟨none, 0, 0, none, 0, 0, false, none, 0, 0⟩, none, 0, none, 0, [], rfl, rfl, ownT_bad _ _ (by simp; omega)⟩, put9_below B1.out (by omega) _ _ _ _ _ _ _ _ _⟩
  go_wp2_with fail
  refine (C2.out w1 B1.out).mono ?_
  rintro e w2 ⟨⟨h2, l2, lc2, f2, fc2, gs, rfl, sm, o2⟩, hb⟩
  have s2 : w1.heap.size ≤ w2.heap.size := hb.size
  have x2 := X1.out.belowS hb
  have b2 : Below w.heap.size w w2 := B1.out.trans (hb.mono B1.out.size)
  obtain ⟨W3, hW3⟩ : ∃ W, (((((((((w2.setCell ⟨w.heap.size, 0, none⟩ (.slice h2.a0 h2.n0 h2.c0)).setCell ⟨w.heap.size, 1, none⟩ (.slice h2.a1 h2.n1 h2.c1)).setCell ⟨w.heap.size, 2, none⟩ (.bool h2.b)).setCell ⟨w.heap.size, 3, none⟩ (.slice h2.a2 h2.n2 h2.c2)).setCell ⟨w.heap.size, 4, none⟩ (.int .i64 ep)).setCell ⟨w.heap.size, 5, none⟩ (.slice l2 ln lc2)).setCell ⟨w.heap.size, 6, none⟩ (.int .i64 su)).setCell ⟨w.heap.size, 7, none⟩ (.slice f2 fn fc2)).setCell ⟨w.heap.size, 8, none⟩ (.int .i64 ha)) = W := ⟨_, rfl⟩
  have X3 : Hid (Box W3 w.heap.size 46 #[.slice h2.a0 h2.n0 h2.c0, .slice h2.a1 h2.n1 h2.c1, .bool h2.b, .slice h2.a2 h2.n2 h2.c2, .int .i64 ep, .slice l2 ln lc2, .int .i64 su, .slice f2 fn fc2, .int .i64 ha]) := by unfold Hid; rw [← hW3]; exact put9_box x2 _ _ _ _ _ _ _ _ _
  have B3 : Hid (Below w.heap.size w W3) := by unfold Hid; rw [← hW3]; exact put9_below b2 (Nat.le_refl _) _ _ _ _ _ _ _ _ _
  have S3 : W3.heap.size = w2.heap.size := by rw [← hW3]; simp
  have O3 : Hid (OwnT W3 w1.heap.size W3.heap.size h2 D l2 ln lc2 L f2 fn fc2 gs) := by
    unfold Hid
    rw [S3]
    exact o2.same (by omega) fun x a1 a2 => by rw [← hW3]; exact put9_same _ _ _ _ _ _ _ _ _ _ _ _ (by omega)
  have K3 : ∀ x, x ≠ w.heap.size → W3.heap[x]? = w2.heap[x]? := fun x hx => by rw [← hW3]; exact put9_same _ _ _ _ _ _ _ _ _ _ _ _ hx
  have R3 : Hid (Box W3 (w.heap.size + 1) 78 #[.int .i64 r.e, .int .i64 r.l, .int .i64 r.t, .int .i64 r.k, .int .i64 r.p, .int .i64 r.n, .int .i64 r.g, .int .i64 r.s, .string r.b, .string r.a]) := (K3 _ (by omega)).trans (R1.out.belowS hb)
  have Y3 : Hid (Box W3 (w.heap.size + 2) 46 #[.slice none 0 0, .slice none 0 0, .bool false, .slice none 0 0, .int .i64 0, .slice none 0 0, .int .i64 0, .slice none 0 0, .int .i64 0]) := (K3 _ (by omega)).trans (Y1.out.belowS hb)
  have SM : Hid (SameF F gs) := sm
  obtain ⟨l0, hl0, ow, og⟩ : ∃ l0, (w1.heap.size ≤ l0 ∧ l0 ≤ W3.heap.size) ∧ W3.ownsRow l0 78 10 (.slice l2 ln lc2) ln (cellsQ L) ∧ ∀ x, ob l2 = some x → w1.heap.size ≤ x := by
    obtain ⟨d0, d1, l0, l1, f0, f1, p1, hh, o1, o2, o3, o4, o5⟩ := O3.out
    exact ⟨min l0 W3.heap.size, by omega, o2.1.down (by omega), fun x e => by have := o2.2 x e; omega⟩
  have C3 : Hid (Calls _ _ _ _ _) := c_add h2 ep l2 ln lc2 L su f2 fn fc2 ha r.e r.l r.t r.k r.p r.n r.g r.s r.b r.a w.heap.size l0 W3 X3.out ow (fun x e => by have := og x e; omega) hl0.2 hln hbs has
  have HLG : Hid (∀ x, ob l2 = some x → w1.heap.size ≤ x) := og
  have sW3 : w.heap.size < W3.heap.size := by omega
  have sw2 : w.heap.size < w2.heap.size := by omega
  obtain ⟨y0, y1, y2, y3, y4, y5, y6, y7, y8⟩ := box9 x2
  have z0 := x2.thaw 0
  have z1 := x2.thaw 1
  have z2 := x2.thaw 2
  have z3 := x2.thaw 3
  have z4 := x2.thaw 4
  have z5 := x2.thaw 5
  have z6 := x2.thaw 6
  have z7 := x2.thaw 7
  have z8 := x2.thaw 8
  obtain ⟨x0, x1, x2, x3, x4, x5, x6, x7, x8⟩ := box9 X3.out
  obtain ⟨q0, q1, q2, q3, q4, q5, q6, q7, q8, q9⟩ := box10 R3.out
  clear hb b2 o2 sm ow og C2
  go_wp2_with fail
  refine C3.out.mono ?_
  rintro e w4 ⟨l4, lc4, rfl, x4, ow, hx4, hs4, hz4, hbel⟩
  have B4 : Hid (Below w.heap.size w w4) := hbel _ _ B3.out (Nat.le_refl _) (by omega) (fun x e => by have := HLG.out x e; omega)
  have O4 : Hid (OwnT w4 w1.heap.size w4.heap.size h2 D l4 (addL ep L r).1.length lc4 (addL ep L r).1 f2 fn fc2 gs) := O3.out.logged (g := w.heap.size) s1' ow hx4 hs4 hz4
  have X4 : Hid (Box w4 w.heap.size 46 #[.slice h2.a0 h2.n0 h2.c0, .slice h2.a1 h2.n1 h2.c1, .bool h2.b, .slice h2.a2 h2.n2 h2.c2, .int .i64 ep, .slice l4 (addL ep L r).1.length lc4, .int .i64 su, .slice f2 fn fc2, .int .i64 ha]) := x4
  have Y4 : Hid (Box w4 (w.heap.size + 2) 46 #[.slice none 0 0, .slice none 0 0, .bool false, .slice none 0 0, .int .i64 0, .slice none 0 0, .int .i64 0, .slice none 0 0, .int .i64 0]) := (hs4 (w.heap.size + 2) (by omega) (by omega) (fun e => by have := HLG.out _ e; omega)).trans Y3.out
  clear hbel x4 ow hx4 hs4
  clear C3 X3 B3 O3 HLG x2 R3 Y3 R1 Y1 K3
  clear v0 v1 v2 v3 v4 v5 v6 v7 v8
  clear y0 y1 y2 y3 y4 y5 y6 y7 y8
  clear x0 x1 x2 x3 x4 x5 x6 x7 x8
  clear q0 q1 q2 q3 q4 q5 q6 q7 q8 q9
  clear z0 z1 z2 z3 z4 z5 z6 z7 z8
  clear hW3
  obtain ⟨x0, x1, x2, x3, x4, x5, x6, x7, x8⟩ := box9 X4.out
  obtain ⟨y0, y1, y2, y3, y4, y5, y6, y7, y8⟩ := box9 Y4.out
  have t0 := Y4.out.thaw 0
  have t1 := Y4.out.thaw 1
  have t2 := Y4.out.thaw 2
  have t3 := Y4.out.thaw 3
  have t4 := Y4.out.thaw 4
  have t5 := Y4.out.thaw 5
  have t6 := Y4.out.thaw 6
  have t7 := Y4.out.thaw 7
  have t8 := Y4.out.thaw 8
  go_wp2
  subst hFl
  refine ret92 Tryz.results40 rfl rfl rfl (put9_box Y4.out _ _ _ _ _ _ _ _ _) ⟨⟨h2, l4, lc4, f2, fc2, gs, rfl, SM.out, ?_⟩, put9_below B4.out (by omega) _ _ _ _ _ _ _ _ _⟩
  have o := O4.out.same (w' := (((((((((w4.setCell ⟨(w.heap.size + 2), 0, none⟩ (.slice h2.a0 h2.n0 h2.c0)).setCell ⟨(w.heap.size + 2), 1, none⟩ (.slice h2.a1 h2.n1 h2.c1)).setCell ⟨(w.heap.size + 2), 2, none⟩ (.bool h2.b)).setCell ⟨(w.heap.size + 2), 3, none⟩ (.slice h2.a2 h2.n2 h2.c2)).setCell ⟨(w.heap.size + 2), 4, none⟩ (.int .i64 ep)).setCell ⟨(w.heap.size + 2), 5, none⟩ (.slice l4 (addL ep L r).1.length lc4)).setCell ⟨(w.heap.size + 2), 6, none⟩ (.int .i64 su)).setCell ⟨(w.heap.size + 2), 7, none⟩ (.slice f2 F.length fc2)).setCell ⟨(w.heap.size + 2), 8, none⟩ (.int .i64 ha))) (by simp) fun g a1 a2 => put9_same _ _ _ _ _ _ _ _ _ _ _ _ (by omega)
  exact o.wide (B' := w.heap.size) (by omega) ⟨by simp, by simp⟩

end Go.Proofs.YtkpopingbbaomaaGreatDoor
