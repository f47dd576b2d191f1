/-
  Stores: their sizes, copies and comparisons.
-/
import Derived.Test.YtcokbogicbdoaaaDoorYtcq
import Derived.Test.YtcokbogicbdoaaaDoorYsgq
namespace Go.Proofs.YtcokbogicbdoaaaDoor
open Go Go.RowKit
attribute [local go_sem ↓] Go.wp_at_zero Go.wp_at_succ

theorem OwnD.from {w : World} {B E B' E' : Nat} {h : HD} {D : DD} (o : OwnD w B E h D) (hb : B' ≤ B) (he : E ≤ E') (hw : E' ≤ w.heap.size) : OwnD w B' E' h D := by
  have q := o.wide hb
  obtain ⟨h1, h2, h3, h4, h5, h6, h7, h8⟩ := q
  obtain ⟨_, _, _, _, _, k6, k7, k8⟩ := o
  exact ⟨h1, h2, h3, h4, hw, fun g e => ⟨(h6 g e).1, by have := (k6 g e).2.1; omega, (h6 g e).2.2⟩, fun g e => ⟨(h7 g e).1, by have := (k7 g e).2.1; omega, (h7 g e).2.2⟩, fun g e => ⟨(h8 g e).1, by have := (k8 g e).2; omega⟩⟩
/-- A store whose arrays are the call's own, made since B and ahead of E: first the disk's, then the log's, then the frames', then their pages'. -/
def OwnS (w : World) (B E : Nat) (h : HD) (D : DD) (la : Option Addr) (ln lc : Nat) (L : List DR) (fa : Option Addr) (fn fc : Nat) (G : List FF) : Prop :=
  ∃ q f p, B ≤ q ∧ q ≤ f ∧ f ≤ p ∧ p ≤ E ∧ E ≤ w.heap.size ∧ OwnD w B q h D ∧ w.ownsRow q 68 10 (.slice la ln lc) ln (cellsQ L) ∧ (∀ g, ob la = some g → q ≤ g ∧ g < f) ∧ w.ownsRow f 51 5 (.slice fa fn fc) fn (cellsF G) ∧ (∀ g, ob fa = some g → f ≤ g ∧ g < p) ∧ OwnF w p E G
theorem OwnF.same {w w' : World} {B E : Nat} {gs : List FF} (o : OwnF w B E gs) (hsz : w.heap.size ≤ w'.heap.size) (hs : ∀ g, B ≤ g → g < E → w'.heap[g]? = w.heap[g]?) : OwnF w' B E gs := fun i hi => (o i hi).same hsz hs
theorem OwnS.same {w w' : World} {B E : Nat} {h : HD} {D : DD} {la : Option Addr} {ln lc : Nat} {L : List DR} {fa : Option Addr} {fn fc : Nat} {G : List FF} (o : OwnS w B E h D la ln lc L fa fn fc G) (hsz : w.heap.size ≤ w'.heap.size) (hs : ∀ g, B ≤ g → g < E → w'.heap[g]? = w.heap[g]?) : OwnS w' B E h D la ln lc L fa fn fc G := by
  obtain ⟨q, f, p, a1, a2, a3, a4, a5, b1, b2, b3, b4, b5, b6⟩ := o
  refine ⟨q, f, p, a1, a2, a3, a4, by omega, b1.same hsz fun g h1 h2 => hs g (by omega) (by omega), own_same b2 fun g e => ?_, b3, own_same b4 fun g e => ?_, b5, b6.same hsz fun g h1 h2 => hs g (by omega) (by omega)⟩
  · rw [ob_slice] at e; have := b3 g e; exact hs g (by omega) (by omega)
  · rw [ob_slice] at e; have := b5 g e; exact hs g (by omega) (by omega)
theorem OwnS.below {w w' : World} {B E : Nat} {h : HD} {D : DD} {la : Option Addr} {ln lc : Nat} {L : List DR} {fa : Option Addr} {fn fc : Nat} {G : List FF} (o : OwnS w B E h D la ln lc L fa fn fc G) (hb : Below w.heap.size w w') : OwnS w' B E h D la ln lc L fa fn fc G :=
  o.same hb.size fun g _ h2 => hb.block g (by obtain ⟨q, f, p, a1, a2, a3, a4, a5, _⟩ := o; omega)
theorem OwnF.rdF {w : World} {B E b : Nat} {a : Option Addr} {n c : Nat} {gs : List FF} (o : OwnF w B E gs) (h : w.ownsRow b 51 5 (.slice a n c) n (cellsF gs)) : RdF w a n gs :=
  RdF.own h (o.rd (by have := h.1; rw [cellsF_len] at this; omega))
theorem OwnS.rd {w : World} {B E : Nat} {h : HD} {D : DD} {la : Option Addr} {ln lc : Nat} {L : List DR} {fa : Option Addr} {fn fc : Nat} {G : List FF} (o : OwnS w B E h D la ln lc L fa fn fc G) : RdD w h D ∧ RdQ w la ln L ∧ RdF w fa fn G := by
  obtain ⟨q, f, p, a1, a2, a3, a4, a5, b1, b2, b3, b4, b5, b6⟩ := o
  exact ⟨b1.rd, RdQ.own b2, b6.rdF b4⟩
/-- What fits within the laws' room. -/
def FitS (D : DD) (ln : Nat) (L : List DR) (fn : Nat) (F : List FF) : Prop := Fit D ∧ (ln ≤ 1048576 ∧ ∀ v ∈ L, v.b.size ≤ 1048576 ∧ v.a.size ≤ 1048576) ∧ fn ≤ 1048576 ∧ ∀ i, i < fn → G.FitG (F.getD i zeroF).D
theorem loadVar9 {w : World} {r : Nat} {v0 v1 v2 v3 v4 v5 v6 v7 v8 : Value} (hb : Box w r 40 #[v0, v1, v2, v3, v4, v5, v6, v7, v8]) : (loadVar 40 ⟨r, 0, none⟩).run Tryd.prog w = .ok (.agg #[v0, v1, v2, v3, v4, v5, v6, v7, v8]) w := by
  obtain ⟨x0, x1, x2, x3, x4, x5, x6, x7, x8⟩ := box9 hb
  simp [go_sem, x0, x1, x2, x3, x4, x5, x6, x7, x8]
theorem ret9 {fn : Func} {p : Tmp} (h : fn.results = #[.cell p 40]) {R : Ending → World → Prop} {a : Act} {w : World} {r : Nat} {v0 v1 v2 v3 v4 v5 v6 v7 v8 : Value} (hp : a.tmps.getD p undef = .pointer (some ⟨r, 0, none⟩)) (hd : a.defers = []) (hb : Box w r 40 #[v0, v1, v2, v3, v4, v5, v6, v7, v8]) (hR : R (.returned (.agg #[v0, v1, v2, v3, v4, v5, v6, v7, v8])) w) : bodyPost Tryd.prog fn R .ret a w := by
  refine bodyPost_ret ?_ hd hR
  have hp' : a.tmps[p]?.getD undef = .pointer (some ⟨r, 0, none⟩) := by simpa using hp
  simp only [results, h]
  simp [hp', asAddr, loadVar9 hb]
theorem put9_box {V : World} {r : Nat} {t : TypeId} {x0 x1 x2 x3 x4 x5 x6 x7 x8 : Value} (h : Box V r t #[x0, x1, x2, x3, x4, x5, x6, x7, x8]) (v0 v1 v2 v3 v4 v5 v6 v7 v8 : Value) : Box (((((((((V.setCell ⟨r, 0, none⟩ (v0)).setCell ⟨r, 1, none⟩ (v1)).setCell ⟨r, 2, none⟩ (v2)).setCell ⟨r, 3, none⟩ (v3)).setCell ⟨r, 4, none⟩ (v4)).setCell ⟨r, 5, none⟩ (v5)).setCell ⟨r, 6, none⟩ (v6)).setCell ⟨r, 7, none⟩ (v7)).setCell ⟨r, 8, none⟩ (v8)) r t #[v0, v1, v2, v3, v4, v5, v6, v7, v8] := by
  have := ((((((((h.set 0 v0).set 1 v1).set 2 v2).set 3 v3).set 4 v4).set 5 v5).set 6 v6).set 7 v7).set 8 v8
  simpa using this
theorem put9_same (V : World) (r g : Nat) (v0 v1 v2 v3 v4 v5 v6 v7 v8 : Value) (hg : g ≠ r) : (((((((((V.setCell ⟨r, 0, none⟩ (v0)).setCell ⟨r, 1, none⟩ (v1)).setCell ⟨r, 2, none⟩ (v2)).setCell ⟨r, 3, none⟩ (v3)).setCell ⟨r, 4, none⟩ (v4)).setCell ⟨r, 5, none⟩ (v5)).setCell ⟨r, 6, none⟩ (v6)).setCell ⟨r, 7, none⟩ (v7)).setCell ⟨r, 8, none⟩ (v8)).heap[g]? = V.heap[g]? := by
  rw [Below.heap_setCell _ _ _ _ hg, Below.heap_setCell _ _ _ _ hg, Below.heap_setCell _ _ _ _ hg, Below.heap_setCell _ _ _ _ hg, Below.heap_setCell _ _ _ _ hg, Below.heap_setCell _ _ _ _ hg, Below.heap_setCell _ _ _ _ hg, Below.heap_setCell _ _ _ _ hg, Below.heap_setCell _ _ _ _ hg]
theorem put9_below {B : Nat} {w V : World} (hb : Below B w V) {r : Nat} (hr : B ≤ r) (v0 v1 v2 v3 v4 v5 v6 v7 v8 : Value) : Below B w (((((((((V.setCell ⟨r, 0, none⟩ (v0)).setCell ⟨r, 1, none⟩ (v1)).setCell ⟨r, 2, none⟩ (v2)).setCell ⟨r, 3, none⟩ (v3)).setCell ⟨r, 4, none⟩ (v4)).setCell ⟨r, 5, none⟩ (v5)).setCell ⟨r, 6, none⟩ (v6)).setCell ⟨r, 7, none⟩ (v7)).setCell ⟨r, 8, none⟩ (v8)) := ((((((((hb.setCell hr _).setCell hr _).setCell hr _).setCell hr _).setCell hr _).setCell hr _).setCell hr _).setCell hr _).setCell hr _
set_option maxRecDepth 100000 in
set_option maxHeartbeats 8000000 in
theorem c_szST (h : HD) (D : DD) (ep : Int) (la : Option Addr) (ln lc : Nat) (L : List DR) (su : Int) (fa : Option Addr) (fn fc : Nat) (F : List FF) (ha : Int) (left : Int) (w : World) (r : RdD w h D) (m0 : h.n0 ≤ maxLen) (m1 : h.n1 ≤ maxLen) (m2 : h.n2 ≤ maxLen) (s0 : ∀ s ∈ D.S, s.size ≤ maxLen) (s1 : ∀ p ∈ D.C, p.2.size ≤ maxLen) (rl : RdQ w la ln L) (hln : ln ≤ maxLen) (hls : ∀ v ∈ L, v.b.size ≤ maxLen ∧ v.a.size ≤ maxLen) (rf : RdF w fa fn F) (hfn : fn ≤ maxLen) (hfs : ∀ i, i < fn → (F.getD i zeroF).h.n ≤ maxLen ∧ ∀ s ∈ (F.getD i zeroF).D.S, s.size ≤ maxLen) (hl0 : 0 ≤ left) (hl1 : left ≤ 1048576) :
    Calls Tryd.prog 5 #[.agg #[.slice h.a0 h.n0 h.c0, .slice h.a1 h.n1 h.c1, .bool h.b, .slice h.a2 h.n2 h.c2, .int .i64 ep, .slice la ln lc, .int .i64 su, .slice fa fn fc, .int .i64 ha], .int .i64 left] w fun e w' => (∃ z : Int, e = .returned (.int .i64 z) ∧ z ≤ left ∧ (0 ≤ z → FitS D ln L fn F)) ∧ Below w.heap.size w w' := by
  obtain ⟨V, hV⟩ : ∃ V, w.alloc (.cells #[.slice h.a0 h.n0 h.c0, .slice h.a1 h.n1 h.c1, .bool h.b, .slice h.a2 h.n2 h.c2, .int .i64 ep, .slice la ln lc, .int .i64 su, .slice fa fn fc, .int .i64 ha] 30) = V := ⟨_, rfl⟩
  have B0 : Hid (Below w.heap.size w V) := by unfold Hid; rw [← hV]; exact (Below.refl _ _).alloc (Nat.le_refl _) _
  have X0 : Hid (Box V w.heap.size 30 #[.slice h.a0 h.n0 h.c0, .slice h.a1 h.n1 h.c1, .bool h.b, .slice h.a2 h.n2 h.c2, .int .i64 ep, .slice la ln lc, .int .i64 su, .slice fa fn fc, .int .i64 ha]) := by unfold Hid; rw [← hV]; exact Box.new _ _ _
  have C1 := c_szDisk2 h D left V (r.below B0.out) m0 m1 m2 s0 s1 hl0 hl1
  have C2 : Hid (∀ (l : Int) W, Below w.heap.size w W → 0 ≤ l → l ≤ 1048576 → Calls Tryd.prog 13 #[.slice la ln lc, .int .i64 l] W fun e w' => (∃ z : Int, e = .returned (.int .i64 z) ∧ z ≤ l ∧ (0 ≤ z → ln ≤ 1048576 ∧ ∀ v ∈ L, v.b.size ≤ 1048576 ∧ v.a.size ≤ 1048576)) ∧ Below W.heap.size W w') := fun l W hW h0 h1 => c_szQ la ln lc L l W (rl.below hW) hln hls h0 h1
  have C3 : Hid (∀ (l : Int) W, Below w.heap.size w W → 0 ≤ l → l ≤ 1048576 → Calls Tryd.prog 14 #[.slice fa fn fc, .int .i64 l] W fun e w' => (∃ z : Int, e = .returned (.int .i64 z) ∧ z ≤ l ∧ (0 ≤ z → fn ≤ 1048576 ∧ ∀ i, i < fn → G.FitG (F.getD i zeroF).D)) ∧ Below W.heap.size W w') := fun l W hW h0 h1 => c_szF fa fn fc F l W (rf.below hW) hfn hfs h0 h1
  clear r m0 m1 m2 s0 s1 rl hln hls rf hfn hfs
  obtain ⟨x0, x1, x2, x3, x4, x5, x6, x7, x8⟩ := box9 X0.out
  go_enter Tryd.func5, Tryd.ntmps5
  go_wp2_with fail
  refine C1.mono ?_
  rintro e w1 ⟨⟨z1, rfl, hz1, hf1⟩, hb⟩
  have B1 : Hid (Below w.heap.size w w1) := B0.out.trans (hb.mono B0.out.size)
  have X1 : Hid (Box w1 w.heap.size 30 #[.slice h.a0 h.n0 h.c0, .slice h.a1 h.n1 h.c1, .bool h.b, .slice h.a2 h.n2 h.c2, .int .i64 ep, .slice la ln lc, .int .i64 su, .slice fa fn fc, .int .i64 ha]) := X0.out.belowS hb
  have F1 : Hid (0 ≤ z1 → Fit D) := hf1
  clear hb hf1 C1 B0 X0 hV x0 x1 x2 x3 x4 x5 x6 x7 x8
  by_cases n1 : z1 < 0
  · go_wp2
    go_ret
    exact ⟨⟨_, rfl, by omega, fun h => absurd h (by omega)⟩, B1.out⟩
  obtain ⟨x0, x1, x2, x3, x4, x5, x6, x7, x8⟩ := box9 X1.out
  go_wp2_with fail
  refine (C2.out z1 w1 B1.out (by omega) (by omega)).mono ?_
  rintro e w2 ⟨⟨z2, rfl, hz2, hf2⟩, hb⟩
  have B2 : Hid (Below w.heap.size w w2) := B1.out.trans (hb.mono B1.out.size)
  have X2 : Hid (Box w2 w.heap.size 30 #[.slice h.a0 h.n0 h.c0, .slice h.a1 h.n1 h.c1, .bool h.b, .slice h.a2 h.n2 h.c2, .int .i64 ep, .slice la ln lc, .int .i64 su, .slice fa fn fc, .int .i64 ha]) := X1.out.belowS hb
  have F2 : Hid (0 ≤ z2 → ln ≤ 1048576 ∧ ∀ v ∈ L, v.b.size ≤ 1048576 ∧ v.a.size ≤ 1048576) := hf2
  clear hb hf2 C2 B1 X1 x0 x1 x2 x3 x4 x5 x6 x7 x8
  by_cases n2 : z2 < 0
  · go_wp2
    go_ret
    exact ⟨⟨_, rfl, by omega, fun h => absurd h (by omega)⟩, B2.out⟩
  obtain ⟨x0, x1, x2, x3, x4, x5, x6, x7, x8⟩ := box9 X2.out
  go_wp2_with fail
  refine (C3.out z2 w2 B2.out (by omega) (by omega)).mono ?_
  rintro e w3 ⟨⟨z3, rfl, hz3, hf3⟩, hb⟩
  have B3 : Hid (Below w.heap.size w w3) := B2.out.trans (hb.mono B2.out.size)
  have F3 : Hid (0 ≤ z3 → fn ≤ 1048576 ∧ ∀ i, i < fn → G.FitG (F.getD i zeroF).D) := hf3
  clear hb hf3 C3 B2 X2 x0 x1 x2 x3 x4 x5 x6 x7 x8
  by_cases n3 : z3 < 0
  · go_wp2
    go_ret
    exact ⟨⟨_, rfl, by omega, fun h => absurd h (by omega)⟩, B3.out⟩
  · go_wp2
    go_ret
    exact ⟨⟨_, rfl, by omega, fun _ => ⟨F1.out (by omega), F2.out (by omega), F3.out (by omega)⟩⟩, B3.out⟩
set_option maxRecDepth 100000 in
set_option maxHeartbeats 8000000 in
theorem c_toST (h : HD) (D : DD) (ep : Int) (la : Option Addr) (ln lc : Nat) (L : List DR) (su : Int) (fa : Option Addr) (fn fc : Nat) (F : List FF) (ha : Int) (w : World) (r : RdD w h D) (rl : RdQ w la ln L) (rf : RdF w fa fn F) (hf : FitS D ln L fn F) :
    Calls Tryd.prog 7 #[.agg #[.slice h.a0 h.n0 h.c0, .slice h.a1 h.n1 h.c1, .bool h.b, .slice h.a2 h.n2 h.c2, .int .i64 ep, .slice la ln lc, .int .i64 su, .slice fa fn fc, .int .i64 ha]] w fun e w' => (∃ (h' : HD) (la' : Option Addr) (lc' : Nat) (fa' : Option Addr) (fc' : Nat) (gs : List FF), e = .returned (.agg #[.slice h'.a0 h'.n0 h'.c0, .slice h'.a1 h'.n1 h'.c1, .bool h'.b, .slice h'.a2 h'.n2 h'.c2, .int .i64 ep, .slice la' ln lc', .int .i64 su, .slice fa' fn fc', .int .i64 ha]) ∧ SameF F gs ∧ OwnS w' w.heap.size w'.heap.size h' D la' ln lc' L fa' fn fc' gs) ∧ Below w.heap.size w w' := by
  obtain ⟨V, hV⟩ : ∃ V, ((w.alloc (.cells #[.slice h.a0 h.n0 h.c0, .slice h.a1 h.n1 h.c1, .bool h.b, .slice h.a2 h.n2 h.c2, .int .i64 ep, .slice la ln lc, .int .i64 su, .slice fa fn fc, .int .i64 ha] 30)).alloc (.cells #[.slice none 0 0, .slice none 0 0, .bool false, .slice none 0 0, .int .i64 0, .slice none 0 0, .int .i64 0, .slice none 0 0, .int .i64 0] 40)).alloc (.cells #[.slice none 0 0, .slice none 0 0, .bool false, .slice none 0 0, .int .i64 0, .slice none 0 0, .int .i64 0, .slice none 0 0, .int .i64 0] 40) = V := ⟨_, rfl⟩
  have T0 : Hid (T3 w V 30 40 #[.slice h.a0 h.n0 h.c0, .slice h.a1 h.n1 h.c1, .bool h.b, .slice h.a2 h.n2 h.c2, .int .i64 ep, .slice la ln lc, .int .i64 su, .slice fa fn fc, .int .i64 ha] #[.slice none 0 0, .slice none 0 0, .bool false, .slice none 0 0, .int .i64 0, .slice none 0 0, .int .i64 0, .slice none 0 0, .int .i64 0] #[.slice none 0 0, .slice none 0 0, .bool false, .slice none 0 0, .int .i64 0, .slice none 0 0, .int .i64 0, .slice none 0 0, .int .i64 0]) := by unfold Hid; rw [← hV]; exact T3.new _ _ _ _ _ _
  have C1 := c_toDisk h D V (r.below T0.out.bel) hf.1
  have C2 : Hid (∀ W, Below w.heap.size w W → Calls Tryd.prog 18 #[.slice la ln lc] W fun e w' => e = .returned (.slice (some ⟨W.heap.size, 0, none⟩) ln ln) ∧ w'.ownsRow W.heap.size 68 10 (.slice (some ⟨W.heap.size, 0, none⟩) ln ln) ln (cellsQ L) ∧ Below W.heap.size W w') := fun W hW => c_toQ la ln lc L W (rl.below hW) hf.2.1.1
  have C3 : Hid (∀ W, Below w.heap.size w W → Calls Tryd.prog 19 #[.slice fa fn fc] W fun e w' => (∃ gs : List FF, e = .returned (.slice (some ⟨W.heap.size, 0, none⟩) fn fn) ∧ SameF F gs ∧ w'.ownsRow W.heap.size 51 5 (.slice (some ⟨W.heap.size, 0, none⟩) fn fn) fn (cellsF gs) ∧ OwnF w' (W.heap.size + 1) w'.heap.size gs) ∧ Below W.heap.size W w') := fun W hW => c_toF fa fn fc F W (rf.below hW) hf.2.2.1 hf.2.2.2
  clear r rl rf hf
  obtain ⟨x0, x1, x2, x3, x4, x5, x6, x7, x8⟩ := box9 T0.out.a
  have s0 := T0.out.sz
  go_enter Tryd.func7, Tryd.ntmps7
  go_wp2_with fail
  refine C1.mono ?_
  rintro e w1 ⟨⟨h', rfl, o1⟩, hb⟩
  have T1 : Hid (T3 w w1 30 40 #[.slice h.a0 h.n0 h.c0, .slice h.a1 h.n1 h.c1, .bool h.b, .slice h.a2 h.n2 h.c2, .int .i64 ep, .slice la ln lc, .int .i64 su, .slice fa fn fc, .int .i64 ha] #[.slice none 0 0, .slice none 0 0, .bool false, .slice none 0 0, .int .i64 0, .slice none 0 0, .int .i64 0, .slice none 0 0, .int .i64 0] #[.slice none 0 0, .slice none 0 0, .bool false, .slice none 0 0, .int .i64 0, .slice none 0 0, .int .i64 0, .slice none 0 0, .int .i64 0]) := T0.out.below hb
  have O1 : Hid (OwnD w1 V.heap.size w1.heap.size h' D) := o1
  have s1 : V.heap.size ≤ w1.heap.size := hb.size
  clear hb o1 C1 T0 hV x0 x1 x2 x3 x4 x5 x6 x7 x8
  obtain ⟨Va0, hVa0⟩ : ∃ W, w1.setCell ⟨w.heap.size + 1 + 1, 0, none⟩ (.slice h'.a0 h'.n0 h'.c0) = W := ⟨_, rfl⟩
  have Ta0 : Hid (T3 w Va0 30 40 #[.slice h.a0 h.n0 h.c0, .slice h.a1 h.n1 h.c1, .bool h.b, .slice h.a2 h.n2 h.c2, .int .i64 ep, .slice la ln lc, .int .i64 su, .slice fa fn fc, .int .i64 ha] #[.slice none 0 0, .slice none 0 0, .bool false, .slice none 0 0, .int .i64 0, .slice none 0 0, .int .i64 0, .slice none 0 0, .int .i64 0] #[.slice h'.a0 h'.n0 h'.c0, .slice none 0 0, .bool false, .slice none 0 0, .int .i64 0, .slice none 0 0, .int .i64 0, .slice none 0 0, .int .i64 0]) := by unfold Hid; rw [← hVa0]; exact T1.out.set 0 _ rfl
  have c0 : w1.cell? ⟨w.heap.size + 1 + 1, 0, none⟩ = some (.slice none 0 0) := T1.out.o.cell 0
  have z0 := T1.out.o.thaw 0
  obtain ⟨Va1, hVa1⟩ : ∃ W, Va0.setCell ⟨w.heap.size + 1 + 1, 1, none⟩ (.slice h'.a1 h'.n1 h'.c1) = W := ⟨_, rfl⟩
  have Ta1 : Hid (T3 w Va1 30 40 #[.slice h.a0 h.n0 h.c0, .slice h.a1 h.n1 h.c1, .bool h.b, .slice h.a2 h.n2 h.c2, .int .i64 ep, .slice la ln lc, .int .i64 su, .slice fa fn fc, .int .i64 ha] #[.slice none 0 0, .slice none 0 0, .bool false, .slice none 0 0, .int .i64 0, .slice none 0 0, .int .i64 0, .slice none 0 0, .int .i64 0] #[.slice h'.a0 h'.n0 h'.c0, .slice h'.a1 h'.n1 h'.c1, .bool false, .slice none 0 0, .int .i64 0, .slice none 0 0, .int .i64 0, .slice none 0 0, .int .i64 0]) := by unfold Hid; rw [← hVa1]; exact Ta0.out.set 1 _ rfl
  have c1 : Va0.cell? ⟨w.heap.size + 1 + 1, 1, none⟩ = some (.slice none 0 0) := Ta0.out.o.cell 1
  have z1 := Ta0.out.o.thaw 1
  obtain ⟨Va2, hVa2⟩ : ∃ W, Va1.setCell ⟨w.heap.size + 1 + 1, 2, none⟩ (.bool h'.b) = W := ⟨_, rfl⟩
  have Ta2 : Hid (T3 w Va2 30 40 #[.slice h.a0 h.n0 h.c0, .slice h.a1 h.n1 h.c1, .bool h.b, .slice h.a2 h.n2 h.c2, .int .i64 ep, .slice la ln lc, .int .i64 su, .slice fa fn fc, .int .i64 ha] #[.slice none 0 0, .slice none 0 0, .bool false, .slice none 0 0, .int .i64 0, .slice none 0 0, .int .i64 0, .slice none 0 0, .int .i64 0] #[.slice h'.a0 h'.n0 h'.c0, .slice h'.a1 h'.n1 h'.c1, .bool h'.b, .slice none 0 0, .int .i64 0, .slice none 0 0, .int .i64 0, .slice none 0 0, .int .i64 0]) := by unfold Hid; rw [← hVa2]; exact Ta1.out.set 2 _ rfl
  have c2 : Va1.cell? ⟨w.heap.size + 1 + 1, 2, none⟩ = some (.bool false) := Ta1.out.o.cell 2
  have z2 := Ta1.out.o.thaw 2
  obtain ⟨Va3, hVa3⟩ : ∃ W, Va2.setCell ⟨w.heap.size + 1 + 1, 3, none⟩ (.slice h'.a2 h'.n2 h'.c2) = W := ⟨_, rfl⟩
  have Ta3 : Hid (T3 w Va3 30 40 #[.slice h.a0 h.n0 h.c0, .slice h.a1 h.n1 h.c1, .bool h.b, .slice h.a2 h.n2 h.c2, .int .i64 ep, .slice la ln lc, .int .i64 su, .slice fa fn fc, .int .i64 ha] #[.slice none 0 0, .slice none 0 0, .bool false, .slice none 0 0, .int .i64 0, .slice none 0 0, .int .i64 0, .slice none 0 0, .int .i64 0] #[.slice h'.a0 h'.n0 h'.c0, .slice h'.a1 h'.n1 h'.c1, .bool h'.b, .slice h'.a2 h'.n2 h'.c2, .int .i64 0, .slice none 0 0, .int .i64 0, .slice none 0 0, .int .i64 0]) := by unfold Hid; rw [← hVa3]; exact Ta2.out.set 3 _ rfl
  have c3 : Va2.cell? ⟨w.heap.size + 1 + 1, 3, none⟩ = some (.slice none 0 0) := Ta2.out.o.cell 3
  have z3 := Ta2.out.o.thaw 3
  obtain ⟨Va4, hVa4⟩ : ∃ W, Va3.setCell ⟨w.heap.size + 1 + 1, 4, none⟩ (.int .i64 ep) = W := ⟨_, rfl⟩
  have Ta4 : Hid (T3 w Va4 30 40 #[.slice h.a0 h.n0 h.c0, .slice h.a1 h.n1 h.c1, .bool h.b, .slice h.a2 h.n2 h.c2, .int .i64 ep, .slice la ln lc, .int .i64 su, .slice fa fn fc, .int .i64 ha] #[.slice none 0 0, .slice none 0 0, .bool false, .slice none 0 0, .int .i64 0, .slice none 0 0, .int .i64 0, .slice none 0 0, .int .i64 0] #[.slice h'.a0 h'.n0 h'.c0, .slice h'.a1 h'.n1 h'.c1, .bool h'.b, .slice h'.a2 h'.n2 h'.c2, .int .i64 ep, .slice none 0 0, .int .i64 0, .slice none 0 0, .int .i64 0]) := by unfold Hid; rw [← hVa4]; exact Ta3.out.set 4 _ rfl
  have c4 : Va3.cell? ⟨w.heap.size + 1 + 1, 4, none⟩ = some (.int .i64 0) := Ta3.out.o.cell 4
  have z4 := Ta3.out.o.thaw 4
  have a4 : Va3.cell? ⟨w.heap.size, 4, none⟩ = some (.int .i64 ep) := Ta3.out.a.cell 4
  have a5 : Va4.cell? ⟨w.heap.size, 5, none⟩ = some (.slice la ln lc) := Ta4.out.a.cell 5
  have sa : w1.heap.size ≤ Va4.heap.size ∧ Va4.heap.size ≤ w1.heap.size := by rw [← hVa4, ← hVa3, ← hVa2, ← hVa1, ← hVa0]; simp
  have K1 : Hid (∀ g, V.heap.size ≤ g → Va4.heap[g]? = w1.heap[g]?) := fun g hg => by
    rw [← hVa4, ← hVa3, ← hVa2, ← hVa1, ← hVa0, Below.heap_setCell _ _ _ _ (by simp; omega), Below.heap_setCell _ _ _ _ (by simp; omega), Below.heap_setCell _ _ _ _ (by simp; omega), Below.heap_setCell _ _ _ _ (by simp; omega), Below.heap_setCell _ _ _ _ (by simp; omega)]
  have O2 : Hid (OwnD Va4 V.heap.size w1.heap.size h' D) := O1.out.same (by omega) fun g h1 _ => K1.out g h1
  have C2' := C2.out Va4 Ta4.out.bel
  clear K1 O1 T1 Ta0 Ta1 Ta2 Ta3 C2
  go_wp2_with fail
  refine C2'.mono ?_
  rintro e w2 ⟨rfl, oq, hb⟩
  obtain ⟨q, hq⟩ : ∃ q, Va4.heap.size = q := ⟨_, rfl⟩
  rw [hq] at oq
  have T2 : Hid (T3 w w2 30 40 #[.slice h.a0 h.n0 h.c0, .slice h.a1 h.n1 h.c1, .bool h.b, .slice h.a2 h.n2 h.c2, .int .i64 ep, .slice la ln lc, .int .i64 su, .slice fa fn fc, .int .i64 ha] #[.slice none 0 0, .slice none 0 0, .bool false, .slice none 0 0, .int .i64 0, .slice none 0 0, .int .i64 0, .slice none 0 0, .int .i64 0] #[.slice h'.a0 h'.n0 h'.c0, .slice h'.a1 h'.n1 h'.c1, .bool h'.b, .slice h'.a2 h'.n2 h'.c2, .int .i64 ep, .slice none 0 0, .int .i64 0, .slice none 0 0, .int .i64 0]) := Ta4.out.below hb
  have O3 : Hid (OwnD w2 V.heap.size w1.heap.size h' D) := O2.out.below hb
  have Q3 : Hid (w2.ownsRow q 68 10 (.slice (some ⟨q, 0, none⟩) ln ln) ln (cellsQ L)) := oq
  have sq : q < w2.heap.size := oq.lt q rfl |>.2
  have s2 : w1.heap.size ≤ q ∧ q ≤ w1.heap.size := by omega
  rw [hq]
  clear hq sa hb oq C2' O2 Ta4 a4 a5 c0 z0 hVa0 c1 z1 hVa1 c2 z2 hVa2 c3 z3 hVa3 c4 z4 hVa4
  obtain ⟨Vb5, hVb5⟩ : ∃ W, w2.setCell ⟨w.heap.size + 1 + 1, 5, none⟩ (.slice (some ⟨q, 0, none⟩) ln ln) = W := ⟨_, rfl⟩
  have Tb5 : Hid (T3 w Vb5 30 40 #[.slice h.a0 h.n0 h.c0, .slice h.a1 h.n1 h.c1, .bool h.b, .slice h.a2 h.n2 h.c2, .int .i64 ep, .slice la ln lc, .int .i64 su, .slice fa fn fc, .int .i64 ha] #[.slice none 0 0, .slice none 0 0, .bool false, .slice none 0 0, .int .i64 0, .slice none 0 0, .int .i64 0, .slice none 0 0, .int .i64 0] #[.slice h'.a0 h'.n0 h'.c0, .slice h'.a1 h'.n1 h'.c1, .bool h'.b, .slice h'.a2 h'.n2 h'.c2, .int .i64 ep, .slice (some ⟨q, 0, none⟩) ln ln, .int .i64 0, .slice none 0 0, .int .i64 0]) := by unfold Hid; rw [← hVb5]; exact T2.out.set 5 _ rfl
  have c5 : w2.cell? ⟨w.heap.size + 1 + 1, 5, none⟩ = some (.slice none 0 0) := T2.out.o.cell 5
  have z5 := T2.out.o.thaw 5
  obtain ⟨Vb6, hVb6⟩ : ∃ W, Vb5.setCell ⟨w.heap.size + 1 + 1, 6, none⟩ (.int .i64 su) = W := ⟨_, rfl⟩
  have Tb6 : Hid (T3 w Vb6 30 40 #[.slice h.a0 h.n0 h.c0, .slice h.a1 h.n1 h.c1, .bool h.b, .slice h.a2 h.n2 h.c2, .int .i64 ep, .slice la ln lc, .int .i64 su, .slice fa fn fc, .int .i64 ha] #[.slice none 0 0, .slice none 0 0, .bool false, .slice none 0 0, .int .i64 0, .slice none 0 0, .int .i64 0, .slice none 0 0, .int .i64 0] #[.slice h'.a0 h'.n0 h'.c0, .slice h'.a1 h'.n1 h'.c1, .bool h'.b, .slice h'.a2 h'.n2 h'.c2, .int .i64 ep, .slice (some ⟨q, 0, none⟩) ln ln, .int .i64 su, .slice none 0 0, .int .i64 0]) := by unfold Hid; rw [← hVb6]; exact Tb5.out.set 6 _ rfl
  have c6 : Vb5.cell? ⟨w.heap.size + 1 + 1, 6, none⟩ = some (.int .i64 0) := Tb5.out.o.cell 6
  have z6 := Tb5.out.o.thaw 6
  have a6 : Vb5.cell? ⟨w.heap.size, 6, none⟩ = some (.int .i64 su) := Tb5.out.a.cell 6
  have a7 : Vb6.cell? ⟨w.heap.size, 7, none⟩ = some (.slice fa fn fc) := Tb6.out.a.cell 7
  have sb : w2.heap.size ≤ Vb6.heap.size ∧ Vb6.heap.size ≤ w2.heap.size := by rw [← hVb6, ← hVb5]; simp
  have K2 : Hid (∀ g, V.heap.size ≤ g → Vb6.heap[g]? = w2.heap[g]?) := fun g hg => by
    rw [← hVb6, ← hVb5, Below.heap_setCell _ _ _ _ (by simp; omega), Below.heap_setCell _ _ _ _ (by simp; omega)]
  have O4 : Hid (OwnD Vb6 V.heap.size w1.heap.size h' D) := O3.out.same (by omega) fun g h1 _ => K2.out g h1
  have Q4 : Hid (Vb6.ownsRow q 68 10 (.slice (some ⟨q, 0, none⟩) ln ln) ln (cellsQ L)) := own_same Q3.out fun g e => by
    rw [ob_slice] at e
    have e' : q = g := by simpa [ob] using e
    exact K2.out g (by omega)
  have C3' := C3.out Vb6 Tb6.out.bel
  clear K2 O3 Q3 T2 Tb5 C3
  go_wp2_with fail
  refine C3'.mono ?_
  rintro e w3 ⟨⟨gs, rfl, hsame, ofr, opg⟩, hb⟩
  obtain ⟨f, hf⟩ : ∃ f, Vb6.heap.size = f := ⟨_, rfl⟩
  rw [hf] at ofr opg
  have T4 : Hid (T3 w w3 30 40 #[.slice h.a0 h.n0 h.c0, .slice h.a1 h.n1 h.c1, .bool h.b, .slice h.a2 h.n2 h.c2, .int .i64 ep, .slice la ln lc, .int .i64 su, .slice fa fn fc, .int .i64 ha] #[.slice none 0 0, .slice none 0 0, .bool false, .slice none 0 0, .int .i64 0, .slice none 0 0, .int .i64 0, .slice none 0 0, .int .i64 0] #[.slice h'.a0 h'.n0 h'.c0, .slice h'.a1 h'.n1 h'.c1, .bool h'.b, .slice h'.a2 h'.n2 h'.c2, .int .i64 ep, .slice (some ⟨q, 0, none⟩) ln ln, .int .i64 su, .slice none 0 0, .int .i64 0]) := Tb6.out.below hb
  have O5 : Hid (OwnD w3 V.heap.size w1.heap.size h' D) := O4.out.below hb
  have Q5 : Hid (w3.ownsRow q 68 10 (.slice (some ⟨q, 0, none⟩) ln ln) ln (cellsQ L)) := own_below Q4.out hb
  have F5 : Hid (w3.ownsRow f 51 5 (.slice (some ⟨f, 0, none⟩) fn fn) fn (cellsF gs)) := ofr
  have P5 : Hid (OwnF w3 (f + 1) w3.heap.size gs) := opg
  have HSM : Hid (SameF F gs) := hsame
  have sf : f < w3.heap.size := ofr.lt f rfl |>.2
  have s3 : w2.heap.size ≤ f ∧ f ≤ w2.heap.size := by omega
  rw [hf]
  clear hf sb hb ofr opg hsame C3' O4 Q4 Tb6 a6 a7 c5 z5 hVb5 c6 z6 hVb6
  obtain ⟨Vc7, hVc7⟩ : ∃ W, w3.setCell ⟨w.heap.size + 1 + 1, 7, none⟩ (.slice (some ⟨f, 0, none⟩) fn fn) = W := ⟨_, rfl⟩
  have Tc7 : Hid (T3 w Vc7 30 40 #[.slice h.a0 h.n0 h.c0, .slice h.a1 h.n1 h.c1, .bool h.b, .slice h.a2 h.n2 h.c2, .int .i64 ep, .slice la ln lc, .int .i64 su, .slice fa fn fc, .int .i64 ha] #[.slice none 0 0, .slice none 0 0, .bool false, .slice none 0 0, .int .i64 0, .slice none 0 0, .int .i64 0, .slice none 0 0, .int .i64 0] #[.slice h'.a0 h'.n0 h'.c0, .slice h'.a1 h'.n1 h'.c1, .bool h'.b, .slice h'.a2 h'.n2 h'.c2, .int .i64 ep, .slice (some ⟨q, 0, none⟩) ln ln, .int .i64 su, .slice (some ⟨f, 0, none⟩) fn fn, .int .i64 0]) := by unfold Hid; rw [← hVc7]; exact T4.out.set 7 _ rfl
  have c7 : w3.cell? ⟨w.heap.size + 1 + 1, 7, none⟩ = some (.slice none 0 0) := T4.out.o.cell 7
  have z7 := T4.out.o.thaw 7
  obtain ⟨Vc8, hVc8⟩ : ∃ W, Vc7.setCell ⟨w.heap.size + 1 + 1, 8, none⟩ (.int .i64 ha) = W := ⟨_, rfl⟩
  have Tc8 : Hid (T3 w Vc8 30 40 #[.slice h.a0 h.n0 h.c0, .slice h.a1 h.n1 h.c1, .bool h.b, .slice h.a2 h.n2 h.c2, .int .i64 ep, .slice la ln lc, .int .i64 su, .slice fa fn fc, .int .i64 ha] #[.slice none 0 0, .slice none 0 0, .bool false, .slice none 0 0, .int .i64 0, .slice none 0 0, .int .i64 0, .slice none 0 0, .int .i64 0] #[.slice h'.a0 h'.n0 h'.c0, .slice h'.a1 h'.n1 h'.c1, .bool h'.b, .slice h'.a2 h'.n2 h'.c2, .int .i64 ep, .slice (some ⟨q, 0, none⟩) ln ln, .int .i64 su, .slice (some ⟨f, 0, none⟩) fn fn, .int .i64 ha]) := by unfold Hid; rw [← hVc8]; exact Tc7.out.set 8 _ rfl
  have c8 : Vc7.cell? ⟨w.heap.size + 1 + 1, 8, none⟩ = some (.int .i64 0) := Tc7.out.o.cell 8
  have z8 := Tc7.out.o.thaw 8
  have a8 : Vc7.cell? ⟨w.heap.size, 8, none⟩ = some (.int .i64 ha) := Tc7.out.a.cell 8
  have sc : w3.heap.size ≤ Vc8.heap.size ∧ Vc8.heap.size ≤ w3.heap.size := by rw [← hVc8, ← hVc7]; simp
  have K3 : Hid (∀ g, V.heap.size ≤ g → (((((((((Vc8.setCell ⟨w.heap.size + 1, 0, none⟩ (.slice h'.a0 h'.n0 h'.c0)).setCell ⟨w.heap.size + 1, 1, none⟩ (.slice h'.a1 h'.n1 h'.c1)).setCell ⟨w.heap.size + 1, 2, none⟩ (.bool h'.b)).setCell ⟨w.heap.size + 1, 3, none⟩ (.slice h'.a2 h'.n2 h'.c2)).setCell ⟨w.heap.size + 1, 4, none⟩ (.int .i64 ep)).setCell ⟨w.heap.size + 1, 5, none⟩ (.slice (some ⟨q, 0, none⟩) ln ln)).setCell ⟨w.heap.size + 1, 6, none⟩ (.int .i64 su)).setCell ⟨w.heap.size + 1, 7, none⟩ (.slice (some ⟨f, 0, none⟩) fn fn)).setCell ⟨w.heap.size + 1, 8, none⟩ (.int .i64 ha)).heap[g]? = w3.heap[g]?) := fun g hg => by
    rw [put9_same _ _ _ _ _ _ _ _ _ _ _ _ (by omega), ← hVc8, ← hVc7, Below.heap_setCell _ _ _ _ (by simp; omega), Below.heap_setCell _ _ _ _ (by simp; omega)]
  have sz : Hid ((((((((((Vc8.setCell ⟨w.heap.size + 1, 0, none⟩ (.slice h'.a0 h'.n0 h'.c0)).setCell ⟨w.heap.size + 1, 1, none⟩ (.slice h'.a1 h'.n1 h'.c1)).setCell ⟨w.heap.size + 1, 2, none⟩ (.bool h'.b)).setCell ⟨w.heap.size + 1, 3, none⟩ (.slice h'.a2 h'.n2 h'.c2)).setCell ⟨w.heap.size + 1, 4, none⟩ (.int .i64 ep)).setCell ⟨w.heap.size + 1, 5, none⟩ (.slice (some ⟨q, 0, none⟩) ln ln)).setCell ⟨w.heap.size + 1, 6, none⟩ (.int .i64 su)).setCell ⟨w.heap.size + 1, 7, none⟩ (.slice (some ⟨f, 0, none⟩) fn fn)).setCell ⟨w.heap.size + 1, 8, none⟩ (.int .i64 ha)).heap.size = w3.heap.size) := by
    unfold Hid
    have : (((((((((Vc8.setCell ⟨w.heap.size + 1, 0, none⟩ (.slice h'.a0 h'.n0 h'.c0)).setCell ⟨w.heap.size + 1, 1, none⟩ (.slice h'.a1 h'.n1 h'.c1)).setCell ⟨w.heap.size + 1, 2, none⟩ (.bool h'.b)).setCell ⟨w.heap.size + 1, 3, none⟩ (.slice h'.a2 h'.n2 h'.c2)).setCell ⟨w.heap.size + 1, 4, none⟩ (.int .i64 ep)).setCell ⟨w.heap.size + 1, 5, none⟩ (.slice (some ⟨q, 0, none⟩) ln ln)).setCell ⟨w.heap.size + 1, 6, none⟩ (.int .i64 su)).setCell ⟨w.heap.size + 1, 7, none⟩ (.slice (some ⟨f, 0, none⟩) fn fn)).setCell ⟨w.heap.size + 1, 8, none⟩ (.int .i64 ha)).heap.size = Vc8.heap.size := by simp
    omega
  have HOS : Hid (OwnS (((((((((Vc8.setCell ⟨w.heap.size + 1, 0, none⟩ (.slice h'.a0 h'.n0 h'.c0)).setCell ⟨w.heap.size + 1, 1, none⟩ (.slice h'.a1 h'.n1 h'.c1)).setCell ⟨w.heap.size + 1, 2, none⟩ (.bool h'.b)).setCell ⟨w.heap.size + 1, 3, none⟩ (.slice h'.a2 h'.n2 h'.c2)).setCell ⟨w.heap.size + 1, 4, none⟩ (.int .i64 ep)).setCell ⟨w.heap.size + 1, 5, none⟩ (.slice (some ⟨q, 0, none⟩) ln ln)).setCell ⟨w.heap.size + 1, 6, none⟩ (.int .i64 su)).setCell ⟨w.heap.size + 1, 7, none⟩ (.slice (some ⟨f, 0, none⟩) fn fn)).setCell ⟨w.heap.size + 1, 8, none⟩ (.int .i64 ha)) w.heap.size (((((((((Vc8.setCell ⟨w.heap.size + 1, 0, none⟩ (.slice h'.a0 h'.n0 h'.c0)).setCell ⟨w.heap.size + 1, 1, none⟩ (.slice h'.a1 h'.n1 h'.c1)).setCell ⟨w.heap.size + 1, 2, none⟩ (.bool h'.b)).setCell ⟨w.heap.size + 1, 3, none⟩ (.slice h'.a2 h'.n2 h'.c2)).setCell ⟨w.heap.size + 1, 4, none⟩ (.int .i64 ep)).setCell ⟨w.heap.size + 1, 5, none⟩ (.slice (some ⟨q, 0, none⟩) ln ln)).setCell ⟨w.heap.size + 1, 6, none⟩ (.int .i64 su)).setCell ⟨w.heap.size + 1, 7, none⟩ (.slice (some ⟨f, 0, none⟩) fn fn)).setCell ⟨w.heap.size + 1, 8, none⟩ (.int .i64 ha)).heap.size h' D (some ⟨q, 0, none⟩) ln ln L (some ⟨f, 0, none⟩) fn fn gs) := by
    have sz' := sz.out
    unfold Hid
    refine ⟨q, f, f + 1, by omega, by omega, by omega, by omega, Nat.le_refl _, ?_, ?_, ?_, ?_, ?_, ?_⟩
    · have := O5.out.same (w' := (((((((((Vc8.setCell ⟨w.heap.size + 1, 0, none⟩ (.slice h'.a0 h'.n0 h'.c0)).setCell ⟨w.heap.size + 1, 1, none⟩ (.slice h'.a1 h'.n1 h'.c1)).setCell ⟨w.heap.size + 1, 2, none⟩ (.bool h'.b)).setCell ⟨w.heap.size + 1, 3, none⟩ (.slice h'.a2 h'.n2 h'.c2)).setCell ⟨w.heap.size + 1, 4, none⟩ (.int .i64 ep)).setCell ⟨w.heap.size + 1, 5, none⟩ (.slice (some ⟨q, 0, none⟩) ln ln)).setCell ⟨w.heap.size + 1, 6, none⟩ (.int .i64 su)).setCell ⟨w.heap.size + 1, 7, none⟩ (.slice (some ⟨f, 0, none⟩) fn fn)).setCell ⟨w.heap.size + 1, 8, none⟩ (.int .i64 ha))) (by omega) fun g h1 _ => K3.out g h1
      exact this.from (by omega) (by omega) (by omega)
    · refine own_same Q5.out fun g e => ?_
      rw [ob_slice] at e
      have e' : q = g := by simpa [ob] using e
      exact K3.out g (by omega)
    · intro g e
      have e' : q = g := by simpa [ob] using e
      omega
    · refine own_same F5.out fun g e => ?_
      rw [ob_slice] at e
      have e' : f = g := by simpa [ob] using e
      exact K3.out g (by omega)
    · intro g e
      have e' : f = g := by simpa [ob] using e
      omega
    · rw [sz']
      exact P5.out.same (by omega) fun g h1 _ => K3.out g (by omega)
  obtain ⟨y0, y1, y2, y3, y4, y5, y6, y7, y8⟩ := box9 Tc8.out.o
  obtain ⟨r0, r1, r2, r3, r4, r5, r6, r7, r8⟩ := box9 Tc8.out.r
  have t0 := Tc8.out.r.thaw 0
  have t1 := Tc8.out.r.thaw 1
  have t2 := Tc8.out.r.thaw 2
  have t3 := Tc8.out.r.thaw 3
  have t4 := Tc8.out.r.thaw 4
  have t5 := Tc8.out.r.thaw 5
  have t6 := Tc8.out.r.thaw 6
  have t7 := Tc8.out.r.thaw 7
  have t8 := Tc8.out.r.thaw 8
  clear K3 O5 Q5 F5 P5 T4 Tc7
  go_wp2
  refine ret9 Tryd.results7 rfl rfl (put9_box Tc8.out.r _ _ _ _ _ _ _ _ _) ⟨⟨h', some ⟨q, 0, none⟩, ln, some ⟨f, 0, none⟩, fn, gs, rfl, HSM.out, HOS.out⟩, put9_below Tc8.out.bel (by omega) _ _ _ _ _ _ _ _ _⟩
set_option maxRecDepth 100000 in
set_option maxHeartbeats 8000000 in
theorem c_eqST (h h' : HD) (D : DD) (ep : Int) (la la' : Option Addr) (ln lc lc' : Nat) (L : List DR) (su : Int) (fa fa' : Option Addr) (fn fc fc' : Nat) (F F' : List FF) (ha : Int) (w : World) (r : RdD w h D) (r' : RdD w h' D) (rl : RdQ w la ln L) (rl' : RdQ w la' ln L) (rf : RdF w fa fn F) (rf' : RdF w fa' fn F') (hs : SameF F F') (hf : FitS D ln L fn F) :
    Calls Tryd.prog 9 #[.agg #[.slice h.a0 h.n0 h.c0, .slice h.a1 h.n1 h.c1, .bool h.b, .slice h.a2 h.n2 h.c2, .int .i64 ep, .slice la ln lc, .int .i64 su, .slice fa fn fc, .int .i64 ha], .agg #[.slice h'.a0 h'.n0 h'.c0, .slice h'.a1 h'.n1 h'.c1, .bool h'.b, .slice h'.a2 h'.n2 h'.c2, .int .i64 ep, .slice la' ln lc', .int .i64 su, .slice fa' fn fc', .int .i64 ha]] w fun e w' => e = .returned (.bool true) ∧ Below w.heap.size w w' := by
  obtain ⟨V, hV⟩ : ∃ V, (w.alloc (.cells #[.slice h.a0 h.n0 h.c0, .slice h.a1 h.n1 h.c1, .bool h.b, .slice h.a2 h.n2 h.c2, .int .i64 ep, .slice la ln lc, .int .i64 su, .slice fa fn fc, .int .i64 ha] 40)).alloc (.cells #[.slice h'.a0 h'.n0 h'.c0, .slice h'.a1 h'.n1 h'.c1, .bool h'.b, .slice h'.a2 h'.n2 h'.c2, .int .i64 ep, .slice la' ln lc', .int .i64 su, .slice fa' fn fc', .int .i64 ha] 40) = V := ⟨_, rfl⟩
  have B0 : Hid (Below w.heap.size w V) := by unfold Hid; rw [← hV]; exact ((Below.refl _ _).alloc (Nat.le_refl _) _).alloc (by simp) _
  have X0 : Hid (Box V w.heap.size 40 #[.slice h.a0 h.n0 h.c0, .slice h.a1 h.n1 h.c1, .bool h.b, .slice h.a2 h.n2 h.c2, .int .i64 ep, .slice la ln lc, .int .i64 su, .slice fa fn fc, .int .i64 ha]) := by unfold Hid; rw [← hV]; exact (Box.new _ _ _).alloc _
  have Y0 : Hid (Box V (w.heap.size + 1) 40 #[.slice h'.a0 h'.n0 h'.c0, .slice h'.a1 h'.n1 h'.c1, .bool h'.b, .slice h'.a2 h'.n2 h'.c2, .int .i64 ep, .slice la' ln lc', .int .i64 su, .slice fa' fn fc', .int .i64 ha]) := by unfold Hid; rw [← hV]; exact Box.new2 _ _ _ _
  have C1 := c_eqDisk h h' D V (r.below B0.out) (r'.below B0.out) hf.1
  have C2 : Hid (∀ W, Below w.heap.size w W → Calls Tryd.prog 23 #[.slice la ln lc, .slice la' ln lc'] W fun e w' => e = .returned (.bool true) ∧ Below W.heap.size W w') := fun W hW => c_eqQ la la' ln lc lc' L W (rl.below hW) (rl'.below hW) hf.2.1.1
  have C3 : Hid (∀ W, Below w.heap.size w W → Calls Tryd.prog 24 #[.slice fa fn fc, .slice fa' fn fc'] W fun e w' => e = .returned (.bool true) ∧ Below W.heap.size W w') := fun W hW => c_eqF fa fa' fn fc fc' F F' W (rf.below hW) (rf'.below hW) hs hf.2.2.1 hf.2.2.2
  have n1 : (ep != ep) = false := by simp
  have n2 : (su != su) = false := by simp
  have n3 : (ha != ha) = false := by simp
  clear r r' rl rl' rf rf' hs hf
  obtain ⟨x0, x1, x2, x3, x4, x5, x6, x7, x8⟩ := box9 X0.out
  obtain ⟨y0, y1, y2, y3, y4, y5, y6, y7, y8⟩ := box9 Y0.out
  go_enter Tryd.func9, Tryd.ntmps9
  go_wp2_with fail
  refine C1.mono ?_
  rintro e w1 ⟨rfl, hb⟩
  have B1 : Hid (Below w.heap.size w w1) := B0.out.trans (hb.mono B0.out.size)
  have X1 : Hid (Box w1 w.heap.size 40 #[.slice h.a0 h.n0 h.c0, .slice h.a1 h.n1 h.c1, .bool h.b, .slice h.a2 h.n2 h.c2, .int .i64 ep, .slice la ln lc, .int .i64 su, .slice fa fn fc, .int .i64 ha]) := X0.out.belowS hb
  have Y1 : Hid (Box w1 (w.heap.size + 1) 40 #[.slice h'.a0 h'.n0 h'.c0, .slice h'.a1 h'.n1 h'.c1, .bool h'.b, .slice h'.a2 h'.n2 h'.c2, .int .i64 ep, .slice la' ln lc', .int .i64 su, .slice fa' fn fc', .int .i64 ha]) := Y0.out.belowS hb
  clear hb C1 B0 X0 Y0 hV x0 x1 x2 x3 x4 x5 x6 x7 x8 y0 y1 y2 y3 y4 y5 y6 y7 y8
  obtain ⟨x0, x1, x2, x3, x4, x5, x6, x7, x8⟩ := box9 X1.out
  obtain ⟨y0, y1, y2, y3, y4, y5, y6, y7, y8⟩ := box9 Y1.out
  go_wp2_with fail
  refine (C2.out w1 B1.out).mono ?_
  rintro e w2 ⟨rfl, hb⟩
  have B2 : Hid (Below w.heap.size w w2) := B1.out.trans (hb.mono B1.out.size)
  have X2 : Hid (Box w2 w.heap.size 40 #[.slice h.a0 h.n0 h.c0, .slice h.a1 h.n1 h.c1, .bool h.b, .slice h.a2 h.n2 h.c2, .int .i64 ep, .slice la ln lc, .int .i64 su, .slice fa fn fc, .int .i64 ha]) := X1.out.belowS hb
  have Y2 : Hid (Box w2 (w.heap.size + 1) 40 #[.slice h'.a0 h'.n0 h'.c0, .slice h'.a1 h'.n1 h'.c1, .bool h'.b, .slice h'.a2 h'.n2 h'.c2, .int .i64 ep, .slice la' ln lc', .int .i64 su, .slice fa' fn fc', .int .i64 ha]) := Y1.out.belowS hb
  clear hb C2 B1 X1 Y1 x0 x1 x2 x3 x4 x5 x6 x7 x8 y0 y1 y2 y3 y4 y5 y6 y7 y8
  obtain ⟨x0, x1, x2, x3, x4, x5, x6, x7, x8⟩ := box9 X2.out
  obtain ⟨y0, y1, y2, y3, y4, y5, y6, y7, y8⟩ := box9 Y2.out
  go_wp2_with fail
  refine (C3.out w2 B2.out).mono ?_
  rintro e w3 ⟨rfl, hb⟩
  have B3 : Hid (Below w.heap.size w w3) := B2.out.trans (hb.mono B2.out.size)
  have X3 : Hid (Box w3 w.heap.size 40 #[.slice h.a0 h.n0 h.c0, .slice h.a1 h.n1 h.c1, .bool h.b, .slice h.a2 h.n2 h.c2, .int .i64 ep, .slice la ln lc, .int .i64 su, .slice fa fn fc, .int .i64 ha]) := X2.out.belowS hb
  have Y3 : Hid (Box w3 (w.heap.size + 1) 40 #[.slice h'.a0 h'.n0 h'.c0, .slice h'.a1 h'.n1 h'.c1, .bool h'.b, .slice h'.a2 h'.n2 h'.c2, .int .i64 ep, .slice la' ln lc', .int .i64 su, .slice fa' fn fc', .int .i64 ha]) := Y2.out.belowS hb
  clear hb C3 B2 X2 Y2 x0 x1 x2 x3 x4 x5 x6 x7 x8 y0 y1 y2 y3 y4 y5 y6 y7 y8
  obtain ⟨x0, x1, x2, x3, x4, x5, x6, x7, x8⟩ := box9 X3.out
  obtain ⟨y0, y1, y2, y3, y4, y5, y6, y7, y8⟩ := box9 Y3.out
  go_wp2
  go_ret
  exact ⟨rfl, B3.out⟩

end Go.Proofs.YtcokbogicbdoaaaDoor
