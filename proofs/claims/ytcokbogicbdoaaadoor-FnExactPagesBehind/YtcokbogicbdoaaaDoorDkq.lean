/-
  Disks: how they lie in memory, and the walks that copy, compare, size and mark them.
-/
import Derived.Test.YtcokbogicbdoaaaDoorPeq
import Derived.Test.YtcokbogicbdoaaaDoorZzad
namespace Go.Proofs.YtcokbogicbdoaaaDoor
open Go Go.RowKit
attribute [local go_sem ↓] Go.wp_at_zero Go.wp_at_succ

def marksT (k0 n : Nat) : List ByteArray := (List.range n).map fun i => mtext (k0 + i)
theorem marksT_eq (k0 n : Nat) : (marksT k0 n).map Value.string = marksS k0 n := by unfold marksT marksS; rw [List.map_map]; rfl
theorem marksT_len (k0 n : Nat) : ((marksT k0 n).map Value.string).length = n := by rw [marksT_eq]; exact marksS_len _ _
/-- A disk's value: three slices and a bool. -/
structure HD where
  a0 : Option Addr
  n0 : Nat
  c0 : Nat
  a1 : Option Addr
  n1 : Nat
  c1 : Nat
  b : Bool
  a2 : Option Addr
  n2 : Nat
  c2 : Nat
/-- What it says. -/
structure DD where
  S : List ByteArray
  C : List PP
  A : Bool
  K : List Int
def RdD (w : World) (h : HD) (D : DD) : Prop :=
  h.b = D.A ∧ RdV w h.a0 h.n0 (D.S.map Value.string) ∧ RdP w h.a1 h.n1 D.C ∧ RdV w h.a2 h.n2 (D.K.map (Value.int .i64))
theorem RdD.below {w w' : World} {h : HD} {D : DD} (r : RdD w h D) (hb : Below w.heap.size w w') : RdD w' h D :=
  ⟨r.1, r.2.1.below hb, r.2.2.1.below hb, r.2.2.2.below hb⟩
theorem RdD.l0 {w : World} {h : HD} {D : DD} (r : RdD w h D) : D.S.length = h.n0 := by simpa using r.2.1.1
theorem RdD.l1 {w : World} {h : HD} {D : DD} (r : RdD w h D) : D.C.length = h.n1 := r.2.2.1.1
theorem RdD.l2 {w : World} {h : HD} {D : DD} (r : RdD w h D) : D.K.length = h.n2 := by simpa using r.2.2.2.1
def Fit (D : DD) : Prop := D.S.length ≤ 1048576 ∧ D.C.length ≤ 1048576 ∧ D.K.length ≤ 1048576 ∧ (∀ s ∈ D.S, s.size ≤ 1048576) ∧ ∀ p ∈ D.C, p.2.size ≤ 1048576
/-- A disk whose three arrays are the call's own, made since B and ahead of E. -/
def OwnD (w : World) (B E : Nat) (h : HD) (D : DD) : Prop :=
  h.b = D.A ∧ w.ownsRow B 9 1 (.slice h.a0 h.n0 h.c0) h.n0 (D.S.map Value.string) ∧ w.ownsRow B 103 2 (.slice h.a1 h.n1 h.c1) h.n1 (cellsP D.C) ∧ w.ownsRow B 3 1 (.slice h.a2 h.n2 h.c2) h.n2 (D.K.map (Value.int .i64)) ∧
  E ≤ w.heap.size ∧ (∀ g, ob h.a0 = some g → B ≤ g ∧ g < E ∧ ob h.a1 ≠ some g ∧ ob h.a2 ≠ some g) ∧ (∀ g, ob h.a1 = some g → B ≤ g ∧ g < E ∧ ob h.a2 ≠ some g) ∧ (∀ g, ob h.a2 = some g → B ≤ g ∧ g < E)
theorem OwnD.rd {w : World} {B E : Nat} {h : HD} {D : DD} (o : OwnD w B E h D) : RdD w h D := ⟨o.1, RdV.own o.2.1, RdP.own o.2.2.1, RdV.own o.2.2.2.1⟩
theorem OwnD.same {w w' : World} {B E : Nat} {h : HD} {D : DD} (o : OwnD w B E h D) (hsz : w.heap.size ≤ w'.heap.size) (hs : ∀ g, B ≤ g → g < E → w'.heap[g]? = w.heap[g]?) : OwnD w' B E h D := by
  obtain ⟨h1, h2, h3, h4, h5, h6, h7, h8⟩ := o
  refine ⟨h1, own_same h2 fun g e => ?_, own_same h3 fun g e => ?_, own_same h4 fun g e => ?_, by omega, h6, h7, h8⟩
  · rw [ob_slice] at e; exact hs g (h6 g e).1 (h6 g e).2.1
  · rw [ob_slice] at e; exact hs g (h7 g e).1 (h7 g e).2.1
  · rw [ob_slice] at e; exact hs g (h8 g e).1 (h8 g e).2
theorem OwnD.below {w w' : World} {B E : Nat} {h : HD} {D : DD} (o : OwnD w B E h D) (hb : Below w.heap.size w w') : OwnD w' B E h D :=
  o.same hb.size fun g _ h2 => hb.block g (by have := o.2.2.2.2.1; omega)
theorem OwnD.inn {w w' : World} {B E B' E' : Nat} {h : HD} {D : DD} (o : OwnD w B E h D) (hb : Inn B' E' w w') (ha : E ≤ B' ∨ E' ≤ B) : OwnD w' B E h D :=
  o.same hb.size fun g h1 h2 => hb.block g (by have := o.2.2.2.2.1; omega) (by omega)
theorem OwnD.wide {w : World} {B E B' : Nat} {h : HD} {D : DD} (o : OwnD w B E h D) (hb : B' ≤ B) : OwnD w B' w.heap.size h D := by
  obtain ⟨h1, h2, h3, h4, h5, h6, h7, h8⟩ := o
  have down : ∀ {e size n : Nat} {v : Value} {xs : List Value}, w.ownsRow B e size v n xs → w.ownsRow B' e size v n xs := by
    rintro e size n v xs ⟨k1, k2⟩
    rcases k2 with h0 | ⟨g, cap, cur, hv, hb', hr⟩
    · exact ⟨k1, .inl h0⟩
    · exact ⟨k1, .inr ⟨g, cap, cur, hv, by omega, hr⟩⟩
  exact ⟨h1, down h2, down h3, down h4, Nat.le_refl _, fun g e => ⟨by have := (h6 g e).1; omega, by have := (h6 g e).2.1; omega, (h6 g e).2.2⟩, fun g e => ⟨by have := (h7 g e).1; omega, by have := (h7 g e).2.1; omega, (h7 g e).2.2⟩, fun g e => ⟨by have := (h8 g e).1; omega, by have := (h8 g e).2; omega⟩⟩

/-! ### Boxes -/
theorem loadVar27 {w : World} {r : Nat} {v0 v1 v2 v3 : Value} (hb : Box w r 36 #[v0, v1, v2, v3]) : (loadVar 36 ⟨r, 0, none⟩).run Tryd.prog w = .ok (.agg #[v0, v1, v2, v3]) w := by
  have e0 : w.cell? ⟨r, 0, none⟩ = some v0 := hb.cell 0
  have e1 : w.cell? ⟨r, 1, none⟩ = some v1 := hb.cell 1
  have e2 : w.cell? ⟨r, 2, none⟩ = some v2 := hb.cell 2
  have e3 : w.cell? ⟨r, 3, none⟩ = some v3 := hb.cell 3
  simp [go_sem, e0, e1, e2, e3]
theorem ret_box1 {fn : Func} {p : Tmp} (h : fn.results = #[.cell p 36]) {R : Ending → World → Prop} {a : Act} {w : World} {r : Nat} {v0 v1 v2 v3 : Value} (hp : a.tmps.getD p undef = .pointer (some ⟨r, 0, none⟩)) (hd : a.defers = []) (hb : Box w r 36 #[v0, v1, v2, v3]) (hR : R (.returned (.agg #[v0, v1, v2, v3])) w) : bodyPost Tryd.prog fn R .ret a w := by
  refine bodyPost_ret ?_ hd hR
  have hp' : a.tmps[p]?.getD undef = .pointer (some ⟨r, 0, none⟩) := by simpa using hp
  simp only [results, h]
  simp [hp', asAddr, loadVar27 hb]
theorem ret_box2 {fn : Func} {p u : Tmp} (h : fn.results = #[.cell p 36, .tmp u]) {R : Ending → World → Prop} {a : Act} {w : World} {r : Nat} {v0 v1 v2 v3 v : Value} (hp : a.tmps.getD p undef = .pointer (some ⟨r, 0, none⟩)) (hu : a.tmps.getD u undef = v) (hd : a.defers = []) (hb : Box w r 36 #[v0, v1, v2, v3]) (hR : R (.returned (.tuple #[.agg #[v0, v1, v2, v3], v])) w) : bodyPost Tryd.prog fn R .ret a w := by
  refine bodyPost_ret ?_ hd hR
  have hp' : a.tmps[p]?.getD undef = .pointer (some ⟨r, 0, none⟩) := by simpa using hp
  have hu' : a.tmps[u]?.getD undef = v := by simpa using hu
  simp only [results, h]
  simp [Result.andThen, hp', hu', asAddr, loadVar27 hb]
theorem ret_box3 {fn : Func} {p u u' : Tmp} (h : fn.results = #[.cell p 36, .tmp u, .tmp u']) {R : Ending → World → Prop} {a : Act} {w : World} {r : Nat} {v0 v1 v2 v3 v v' : Value} (hp : a.tmps.getD p undef = .pointer (some ⟨r, 0, none⟩)) (hu : a.tmps.getD u undef = v) (hu2 : a.tmps.getD u' undef = v') (hd : a.defers = []) (hb : Box w r 36 #[v0, v1, v2, v3]) (hR : R (.returned (.tuple #[.agg #[v0, v1, v2, v3], v, v'])) w) : bodyPost Tryd.prog fn R .ret a w := by
  refine bodyPost_ret ?_ hd hR
  have hp' : a.tmps[p]?.getD undef = .pointer (some ⟨r, 0, none⟩) := by simpa using hp
  have hu' : a.tmps[u]?.getD undef = v := by simpa using hu
  have hv' : a.tmps[u']?.getD undef = v' := by simpa using hu2
  simp only [results, h]
  simp [Result.andThen, hp', hu', hv', asAddr, loadVar27 hb]
theorem put4_same (V : World) (r g : Nat) (v0 v1 v2 v3 : Value) (hg : g ≠ r) : ((((V.setCell ⟨r, 0, none⟩ v0).setCell ⟨r, 1, none⟩ v1).setCell ⟨r, 2, none⟩ v2).setCell ⟨r, 3, none⟩ v3).heap[g]? = V.heap[g]? := by
  rw [Below.heap_setCell _ _ _ _ hg, Below.heap_setCell _ _ _ _ hg, Below.heap_setCell _ _ _ _ hg, Below.heap_setCell _ _ _ _ hg]
set_option maxRecDepth 100000 in
set_option maxHeartbeats 2000000 in
theorem c_eqDisk (h h' : HD) (D : DD) (w : World) (r : RdD w h D) (r' : RdD w h' D) (hf : Fit D) :
    Calls Tryd.prog 22 #[.agg #[.slice h.a0 h.n0 h.c0, .slice h.a1 h.n1 h.c1, .bool h.b, .slice h.a2 h.n2 h.c2], .agg #[.slice h'.a0 h'.n0 h'.c0, .slice h'.a1 h'.n1 h'.c1, .bool h'.b, .slice h'.a2 h'.n2 h'.c2]] w fun e w' => e = .returned (.bool true) ∧ Below w.heap.size w w' := by
  have k0 := r.l0
  have k1 := r.l1
  have k2 := r.l2
  have k0' := r'.l0
  have k1' := r'.l1
  have k2' := r'.l2
  obtain ⟨f0, f1, f2, _, _⟩ := hf
  obtain ⟨rb, r0, r1, r2⟩ := r
  obtain ⟨rb', r0', r1', r2'⟩ := r'
  obtain ⟨a0, n0, c0, a1, n1, c1, b, a2, n2, c2⟩ := h
  obtain ⟨a0', n0', c0', a1', n1', c1', b', a2', n2', c2'⟩ := h'
  simp only at *
  subst k0 k1 k2 k0' k1' k2' rb rb'
  have R0 : Hid (RdV w a0 D.S.length (D.S.map Value.string)) := r0
  have R1 : Hid (RdP w a1 D.C.length D.C) := r1
  have R2 : Hid (RdV w a2 D.K.length (D.K.map (Value.int .i64))) := r2
  have R0' : Hid (RdV w a0' D.S.length (D.S.map Value.string)) := r0'
  have R1' : Hid (RdP w a1' D.C.length D.C) := r1'
  have R2' : Hid (RdV w a2' D.K.length (D.K.map (Value.int .i64))) := r2'
  clear r0 r1 r2 r0' r1' r2'
  have hb0 : Below w.heap.size w ((w.alloc (.cells #[.slice a0 D.S.length c0, .slice a1 D.C.length c1, .bool D.A, .slice a2 D.K.length c2] 36)).alloc (.cells #[.slice a0' D.S.length c0', .slice a1' D.C.length c1', .bool D.A, .slice a2' D.K.length c2'] 36)) := ((Below.refl _ _).alloc (Nat.le_refl _) _).alloc (by simp) _
  have HB : Hid (Below w.heap.size w ((w.alloc (.cells #[.slice a0 D.S.length c0, .slice a1 D.C.length c1, .bool D.A, .slice a2 D.K.length c2] 36)).alloc (.cells #[.slice a0' D.S.length c0', .slice a1' D.C.length c1', .bool D.A, .slice a2' D.K.length c2'] 36))) := hb0
  have bx1 : Hid (Box ((w.alloc (.cells #[.slice a0 D.S.length c0, .slice a1 D.C.length c1, .bool D.A, .slice a2 D.K.length c2] 36)).alloc (.cells #[.slice a0' D.S.length c0', .slice a1' D.C.length c1', .bool D.A, .slice a2' D.K.length c2'] 36)) w.heap.size 36 #[.slice a0 D.S.length c0, .slice a1 D.C.length c1, .bool D.A, .slice a2 D.K.length c2]) := (Box.new _ _ _).alloc _
  have bx2 : Hid (Box ((w.alloc (.cells #[.slice a0 D.S.length c0, .slice a1 D.C.length c1, .bool D.A, .slice a2 D.K.length c2] 36)).alloc (.cells #[.slice a0' D.S.length c0', .slice a1' D.C.length c1', .bool D.A, .slice a2' D.K.length c2'] 36)) (w.heap.size + 1) 36 #[.slice a0' D.S.length c0', .slice a1' D.C.length c1', .bool D.A, .slice a2' D.K.length c2']) := Box.new2 _ _ _ _
  clear hb0
  go_enter Tryd.func22, Tryd.ntmps22
  go_wp2_with fail
  refine (c_eqS a0 a0' _ c0 _ c0' D.S D.S _ (R0.out.below HB.out) (R0'.out.below HB.out) f0 f0).mono ?_
  rintro e w1 ⟨rfl, q1, hq⟩
  have hb1 : Below w.heap.size w w1 := by rw [hq]; exact below_drewN HB.out q1
  have by1 := bx1.out.drewN q1
  have by2 := bx2.out.drewN q1
  rw [← hq] at by1 by2
  clear hq bx1 bx2 HB
  rw [decide_eq_true (rfl : D.S = D.S)]
  have d1 := by1.cell 1
  have d2 := by2.cell 1
  simp at d1 d2
  go_wp2_with fail
  refine (c_eqP a1 a1' _ c1 c1' D.C w1 (R1.out.below hb1) (R1'.out.below hb1) f1).mono ?_
  rintro e w2 ⟨rfl, hb2⟩
  have bz1 := by1.belowS hb2
  have bz2 := by2.belowS hb2
  have hbb : Below w.heap.size w w2 := hb1.trans (hb2.mono hb1.size)
  clear d1 d2 by1 by2 hb1 hb2
  have d1 := bz1.cell 2
  have d2 := bz2.cell 2
  have d3 := bz1.cell 3
  have d4 := bz2.cell 3
  simp at d1 d2 d3 d4
  have hbn : (D.A != D.A) = false := by simp
  go_wp2_with fail
  refine (c_eqI a2 a2' _ c2 _ c2' D.K D.K w2 (R2.out.below hbb) (R2'.out.below hbb) f2 f2).mono ?_
  rintro e w3 ⟨rfl, q3, hq⟩
  rw [decide_eq_true (rfl : D.K = D.K)]
  have hb3 : Below w.heap.size w w3 := by rw [hq]; exact below_drewN hbb q3
  clear hq
  go_wp2
  go_ret
  exact ⟨rfl, hb3⟩
/-! ### Sizes -/
set_option maxRecDepth 100000 in
set_option maxHeartbeats 2000000 in
theorem c_szDisk (h : HD) (D : DD) (left : Int) (w : World) (r : RdD w h D) (m0 : h.n0 ≤ maxLen) (m1 : h.n1 ≤ maxLen) (m2 : h.n2 ≤ maxLen) (s0 : ∀ s ∈ D.S, s.size ≤ maxLen) (s1 : ∀ p ∈ D.C, p.2.size ≤ maxLen) (hl0 : 0 ≤ left) (hl1 : left ≤ 1048576) :
    Calls Tryd.prog 12 #[.agg #[.slice h.a0 h.n0 h.c0, .slice h.a1 h.n1 h.c1, .bool h.b, .slice h.a2 h.n2 h.c2], .int .i64 left] w fun e w' => (∃ z : Int, e = .returned (.int .i64 z) ∧ (0 ≤ z → Fit D)) ∧ Below w.heap.size w w' := by
  have k0 := r.l0
  have k1 := r.l1
  have k2 := r.l2
  obtain ⟨rb, r0, r1, r2⟩ := r
  obtain ⟨a0, n0, c0, a1, n1, c1, b, a2, n2, c2⟩ := h
  simp only at *
  subst k0 k1 k2 rb
  have R0 : Hid (RdV w a0 D.S.length (D.S.map Value.string)) := r0
  have R1 : Hid (RdP w a1 D.C.length D.C) := r1
  have S0 : Hid (∀ s ∈ D.S, s.size ≤ maxLen) := s0
  have S1 : Hid (∀ p ∈ D.C, p.2.size ≤ maxLen) := s1
  have HB : Hid (Below w.heap.size w (w.alloc (.cells #[.slice a0 D.S.length c0, .slice a1 D.C.length c1, .bool D.A, .slice a2 D.K.length c2] 26))) := (Below.refl _ _).alloc (Nat.le_refl _) _
  have bx : Hid (Box (w.alloc (.cells #[.slice a0 D.S.length c0, .slice a1 D.C.length c1, .bool D.A, .slice a2 D.K.length c2] 26)) w.heap.size 26 #[.slice a0 D.S.length c0, .slice a1 D.C.length c1, .bool D.A, .slice a2 D.K.length c2]) := Box.new _ _ _
  clear r0 r1 r2 s0 s1
  go_enter Tryd.func12, Tryd.ntmps12
  go_wp2_with fail
  refine (c_szS a0 _ c0 D.S left _ (R0.out.below HB.out) m0 S0.out hl0 hl1).mono ?_
  rintro e w1 ⟨rfl, hq⟩
  have hb1 := HB.out
  have by1 := bx.out
  rw [← hq] at hb1 by1
  clear hq HB bx
  obtain ⟨z1, hz1⟩ : ∃ z, z = sizeS left D.S.length D.S := ⟨_, rfl⟩
  rw [← hz1]
  by_cases hn1 : z1 < 0
  · clear hz1
    go_wp2
    go_ret
    exact ⟨⟨_, rfl, fun h => absurd h (by omega)⟩, hb1⟩
  · have q1 : z1 ≤ left ∧ (D.S.length : Int) ≤ left ∧ ∀ s ∈ D.S, s.size ≤ 1048576 := by
      unfold sizeS at hz1
      by_cases h1 : left - D.S.length < 0
      · rw [if_pos h1] at hz1; omega
      · rw [if_neg h1] at hz1
        have := szL_ok D.S (left - D.S.length) (by omega) (by omega)
        exact ⟨by omega, by omega, fun s h => by have := this.2 s h; omega⟩
    have Q1 : Hid (∀ s ∈ D.S, s.size ≤ 1048576) := q1.2.2
    have q11 := q1.1
    have q12 := q1.2.1
    clear q1 hz1
    have d1 := by1.cell 1
    simp at d1
    go_wp2_with fail
    refine (c_szP a1 _ c1 D.C z1 w1 (R1.out.below hb1) m1 S1.out (by omega) (by omega)).mono ?_
    rintro e w2 ⟨rfl, hb2⟩
    have bz1 := by1.belowS hb2
    have hbb : Below w.heap.size w w2 := hb1.trans (hb2.mono hb1.size)
    clear hb1 hb2 by1 d1
    obtain ⟨z2, hz2⟩ : ∃ z, z = sizeS z1 D.C.length (txtP D.C) := ⟨_, rfl⟩
    rw [← hz2]
    by_cases hn2 : z2 < 0
    · clear hz2
      go_wp2
      go_ret
      exact ⟨⟨_, rfl, fun h => absurd h (by omega)⟩, hbb⟩
    · have q2 : z2 ≤ z1 ∧ (D.C.length : Int) ≤ z1 ∧ ∀ s ∈ D.C, s.2.size ≤ 1048576 := by
        unfold sizeS at hz2
        by_cases h1 : z1 - D.C.length < 0
        · rw [if_pos h1] at hz2; omega
        · rw [if_neg h1] at hz2
          have := szL_ok (txtP D.C) (z1 - D.C.length) (by omega) (by omega)
          exact ⟨by omega, by omega, fun s h => by have := this.2 s.2 (List.mem_map.2 ⟨s, h, rfl⟩); omega⟩
      have Q2 : Hid (∀ s ∈ D.C, s.2.size ≤ 1048576) := q2.2.2
      have q21 := q2.1
      have q22 := q2.2.1
      clear q2 hz2
      have d1 := bz1.cell 3
      simp at d1
      go_wp2_with fail
      refine (c_szI a2 _ c2 z2 w2 m2 (by omega) (by omega)).mono ?_
      rintro e w3 ⟨rfl, hq⟩
      have hb3 := hbb
      rw [← hq] at hb3
      clear hq bz1 d1 hbb
      by_cases hn3 : z2 - D.K.length < 0
      · rw [if_pos hn3]
        go_wp2
        go_ret
        exact ⟨⟨_, rfl, fun h => absurd h (by omega)⟩, hb3⟩
      · rw [if_neg hn3]
        have HN : Hid (¬ z2 - D.K.length < 0) := hn3
        go_wp2
        go_ret
        exact ⟨⟨_, rfl, fun h => ⟨by omega, by omega, by have := HN.out; omega, Q1.out, Q2.out⟩⟩, hb3⟩

/-! ### Marks -/
def markD (h : HD) : DD := ⟨marksT 1 h.n0, marksP (1 + h.n0) h.n1, h.b, marksI (1 + h.n0 + h.n1 * 2) h.n2⟩
def markN (h : HD) : Nat := 1 + h.n0 + h.n1 * 2 + h.n2
/-! ### Copies -/
theorem c_toS' (a : Option Addr) (n cap : Nat) (ss : List ByteArray) (w : World) (hr : RdV w a n (ss.map Value.string)) (hn : n ≤ 1048576) :
    Calls Tryd.prog 46 #[.slice a n cap] w fun e w' => (∃ a' c', e = .returned (.slice a' n c') ∧ w'.ownsRow w.heap.size 9 1 (.slice a' n c') n (ss.map Value.string) ∧ ∀ g, ob a' = some g → w.heap.size ≤ g ∧ g < w'.heap.size) ∧ Below w.heap.size w w' := by
  refine (c_toS a n cap _ w hr hn).mono ?_
  rintro e w' ⟨rfl, ho, hb⟩
  exact ⟨⟨_, _, rfl, ho, fun g e => by rw [← ob_slice _ n n] at e; exact ho.lt g e⟩, hb⟩
theorem c_toI' (a : Option Addr) (n cap : Nat) (ss : List Int) (w : World) (hr : RdV w a n (ss.map (Value.int .i64))) (hn : n ≤ 1048576) :
    Calls Tryd.prog 48 #[.slice a n cap] w fun e w' => (∃ a' c', e = .returned (.slice a' n c') ∧ w'.ownsRow w.heap.size 3 1 (.slice a' n c') n (ss.map (Value.int .i64)) ∧ ∀ g, ob a' = some g → w.heap.size ≤ g ∧ g < w'.heap.size) ∧ Below w.heap.size w w' := by
  refine (c_toI a n cap _ w hr hn).mono ?_
  rintro e w' ⟨rfl, ho, hb⟩
  exact ⟨⟨_, _, rfl, ho, fun g e => by rw [← ob_slice _ n n] at e; exact ho.lt g e⟩, hb⟩
theorem c_toP' (a : Option Addr) (n cap : Nat) (vs : List PP) (w : World) (hr : RdP w a n vs) (hn : n ≤ 1048576) :
    Calls Tryd.prog 47 #[.slice a n cap] w fun e w' => (∃ a' c', e = .returned (.slice a' n c') ∧ w'.ownsRow w.heap.size 103 2 (.slice a' n c') n (cellsP vs) ∧ ∀ g, ob a' = some g → w.heap.size ≤ g ∧ g < w'.heap.size) ∧ Below w.heap.size w w' := by
  refine (c_toP a n cap _ w hr hn).mono ?_
  rintro e w' ⟨rfl, ho, hb⟩
  exact ⟨⟨_, _, rfl, ho, fun g e => by rw [← ob_slice _ n n] at e; exact ho.lt g e⟩, hb⟩
set_option maxRecDepth 100000 in
set_option maxHeartbeats 4000000 in
theorem c_toDisk (h : HD) (D : DD) (w : World) (r : RdD w h D) (hf : Fit D) :
    Calls Tryd.prog 17 #[.agg #[.slice h.a0 h.n0 h.c0, .slice h.a1 h.n1 h.c1, .bool h.b, .slice h.a2 h.n2 h.c2]] w fun e w' => (∃ h' : HD, e = .returned (.agg #[.slice h'.a0 h'.n0 h'.c0, .slice h'.a1 h'.n1 h'.c1, .bool h'.b, .slice h'.a2 h'.n2 h'.c2]) ∧ OwnD w' w.heap.size w'.heap.size h' D) ∧ Below w.heap.size w w' := by
  have k0 := r.l0
  have k1 := r.l1
  have k2 := r.l2
  obtain ⟨f0, f1, f2, _, _⟩ := hf
  obtain ⟨rb, r0, r1, r2⟩ := r
  obtain ⟨a0, n0, c0, a1, n1, c1, b, a2, n2, c2⟩ := h
  simp only at *
  subst k0 k1 k2 rb
  have R0 : Hid (RdV w a0 D.S.length (D.S.map Value.string)) := r0
  have R1 : Hid (RdP w a1 D.C.length D.C) := r1
  have R2 : Hid (RdV w a2 D.K.length (D.K.map (Value.int .i64))) := r2
  have HB : Hid (Below w.heap.size w (((w.alloc (.cells #[.slice a0 D.S.length c0, .slice a1 D.C.length c1, .bool D.A, .slice a2 D.K.length c2] 26)).alloc (.cells #[.slice none 0 0, .slice none 0 0, .bool false, .slice none 0 0] 36)).alloc (.cells #[.slice none 0 0, .slice none 0 0, .bool false, .slice none 0 0] 36))) := (((Below.refl _ _).alloc (Nat.le_refl _) _).alloc (by simp) _).alloc (by simp; omega) _
  have bx : Hid (Box (((w.alloc (.cells #[.slice a0 D.S.length c0, .slice a1 D.C.length c1, .bool D.A, .slice a2 D.K.length c2] 26)).alloc (.cells #[.slice none 0 0, .slice none 0 0, .bool false, .slice none 0 0] 36)).alloc (.cells #[.slice none 0 0, .slice none 0 0, .bool false, .slice none 0 0] 36)) w.heap.size 26 #[.slice a0 D.S.length c0, .slice a1 D.C.length c1, .bool D.A, .slice a2 D.K.length c2]) := ((Box.new _ _ _).alloc _).alloc _
  have br : Hid (Box (((w.alloc (.cells #[.slice a0 D.S.length c0, .slice a1 D.C.length c1, .bool D.A, .slice a2 D.K.length c2] 26)).alloc (.cells #[.slice none 0 0, .slice none 0 0, .bool false, .slice none 0 0] 36)).alloc (.cells #[.slice none 0 0, .slice none 0 0, .bool false, .slice none 0 0] 36)) (w.heap.size + 1) 36 #[.slice none 0 0, .slice none 0 0, .bool false, .slice none 0 0]) := (Box.new2 _ _ _ _).alloc _
  have bo : Hid (Box (((w.alloc (.cells #[.slice a0 D.S.length c0, .slice a1 D.C.length c1, .bool D.A, .slice a2 D.K.length c2] 26)).alloc (.cells #[.slice none 0 0, .slice none 0 0, .bool false, .slice none 0 0] 36)).alloc (.cells #[.slice none 0 0, .slice none 0 0, .bool false, .slice none 0 0] 36)) (w.heap.size + 1 + 1) 36 #[.slice none 0 0, .slice none 0 0, .bool false, .slice none 0 0]) := by
    have := Box.new2 (w.alloc (.cells #[.slice a0 D.S.length c0, .slice a1 D.C.length c1, .bool D.A, .slice a2 D.K.length c2] 26)) (.cells #[.slice none 0 0, .slice none 0 0, .bool false, .slice none 0 0] 36) #[.slice none 0 0, .slice none 0 0, .bool false, .slice none 0 0] 36
    rwa [show (w.alloc (.cells #[.slice a0 D.S.length c0, .slice a1 D.C.length c1, .bool D.A, .slice a2 D.K.length c2] 26)).heap.size = w.heap.size + 1 by simp] at this
  clear r0 r1 r2
  go_enter Tryd.func17, Tryd.ntmps17
  go_wp2_with fail
  refine (c_toS' a0 _ c0 D.S _ (R0.out.below HB.out) f0).mono ?_
  rintro e w1 ⟨⟨u0, d0, rfl, o0, l0⟩, hb⟩
  have hb1 : Below w.heap.size w w1 := HB.out.trans (hb.mono HB.out.size)
  have x1 := bx.out.belowS hb
  have y1 := br.out.belowS hb
  have z1 := bo.out.belowS hb
  simp at l0
  have hs1 : w.heap.size + 1 + 1 + 1 ≤ w1.heap.size := by have := hb.size; simpa using this
  have o0' : w1.ownsRow w.heap.size 9 1 (.slice u0 D.S.length d0) D.S.length (D.S.map Value.string) := o0.down (by simp; omega)
  clear hb bx br bo HB o0
  have x2 := x1.setOther ⟨w.heap.size + 1 + 1, 0, none⟩ (.slice u0 D.S.length d0) (show w.heap.size ≠ w.heap.size + 1 + 1 by omega)
  have y2 := y1.setOther ⟨w.heap.size + 1 + 1, 0, none⟩ (.slice u0 D.S.length d0) (show w.heap.size + 1 ≠ w.heap.size + 1 + 1 by omega)
  have z2 := z1.set 0 (.slice u0 D.S.length d0)
  have hb2 : Below w.heap.size w (w1.setCell ⟨w.heap.size + 1 + 1, 0, none⟩ (.slice u0 D.S.length d0)) := hb1.setCell (by simp; omega) _
  have o2 := own_same o0' (w' := w1.setCell ⟨w.heap.size + 1 + 1, 0, none⟩ (.slice u0 D.S.length d0)) (fun g e => by rw [ob_slice] at e; have := l0 g e; exact Below.heap_setCell _ _ _ _ (by simp; omega))
  have v1 := z1.cell 0
  have v2 := z1.thaw 0
  have v3 := x2.cell 1
  simp at v1 v3
  have HX : Hid (Box _ w.heap.size 26 _) := x2
  have HY : Hid (Box _ (w.heap.size + 1) 36 _) := y2
  have HZ : Hid (Box _ (w.heap.size + 1 + 1) 36 _) := z2
  have HB2 : Hid (Below w.heap.size w _) := hb2
  have HO : Hid (World.ownsRow _ w.heap.size 9 1 _ _ _) := o2
  have L0 : Hid (∀ g, ob u0 = some g → w.heap.size + 1 + 1 + 1 ≤ g ∧ g < w1.heap.size) := fun g e => by have := l0 g e; omega
  have HS1 : Hid (w.heap.size + 1 + 1 + 1 ≤ w1.heap.size) := hs1
  clear x1 y1 z1 x2 y2 z2 hb1 hb2 o2 o0' l0 hs1
  go_wp2_with fail
  refine (c_toP' a1 _ c1 D.C _ (R1.out.below HB2.out) f1).mono ?_
  rintro e w2 ⟨⟨u1, d1, rfl, o1, l1⟩, hb⟩
  have hb1 : Below w.heap.size w w2 := HB2.out.trans (hb.mono HB2.out.size)
  have x1 := HX.out.belowS hb
  have y1 := HY.out.belowS hb
  have z1 := HZ.out.belowS hb
  have q0 := own_below HO.out hb
  have q1 : w2.ownsRow w.heap.size 103 2 (.slice u1 D.C.length d1) D.C.length (cellsP D.C) := o1.down HB2.out.size
  have hs2 : w1.heap.size ≤ w2.heap.size := by have := hb.size; simpa using this
  have L0' : Hid (∀ g, ob u0 = some g → w.heap.size + 1 + 1 + 1 ≤ g ∧ g < w1.heap.size) := L0.out
  have L1 : Hid (∀ g, ob u1 = some g → w1.heap.size ≤ g ∧ g < w2.heap.size) := fun g e => by have := l1 g e; simpa using this
  have hs1 : w.heap.size + 1 + 1 + 1 ≤ w1.heap.size := HS1.out
  clear hb HX HY HZ HB2 HO o1 l1 L0 v1 v2 v3
  have v1 := z1.cell 1
  have v2 := z1.thaw 1
  have v4 := z1.thaw 2
  have x2 := (x1.setOther ⟨w.heap.size + 1 + 1, 1, none⟩ (.slice u1 D.C.length d1) (show w.heap.size ≠ w.heap.size + 1 + 1 by omega))
  have x3 := (x2.setOther ⟨w.heap.size + 1 + 1, 2, none⟩ (.bool D.A) (show w.heap.size ≠ w.heap.size + 1 + 1 by omega))
  have y2 := (y1.setOther ⟨w.heap.size + 1 + 1, 1, none⟩ (.slice u1 D.C.length d1) (show w.heap.size + 1 ≠ w.heap.size + 1 + 1 by omega)).setOther ⟨w.heap.size + 1 + 1, 2, none⟩ (.bool D.A) (show w.heap.size + 1 ≠ w.heap.size + 1 + 1 by omega)
  have z2 := z1.set 1 (.slice u1 D.C.length d1)
  have z3 := z2.set 2 (.bool D.A)
  have v5 := z2.cell 2
  have v7 := z2.thaw 2
  have v3 := x2.cell 2
  have v6 := x3.cell 3
  simp at v1 v3 v5 v6
  have hb2 : Below w.heap.size w ((w2.setCell ⟨w.heap.size + 1 + 1, 1, none⟩ (.slice u1 D.C.length d1)).setCell ⟨w.heap.size + 1 + 1, 2, none⟩ (.bool D.A)) := (hb1.setCell (by simp; omega) _).setCell (by simp; omega) _
  have p0 := own_same (own_same q0 (w' := w2.setCell ⟨w.heap.size + 1 + 1, 1, none⟩ (.slice u1 D.C.length d1)) (fun g e => by rw [ob_slice] at e; have := L0'.out g e; exact Below.heap_setCell _ _ _ _ (by simp; omega))) (w' := (w2.setCell ⟨w.heap.size + 1 + 1, 1, none⟩ (.slice u1 D.C.length d1)).setCell ⟨w.heap.size + 1 + 1, 2, none⟩ (.bool D.A)) (fun g e => by rw [ob_slice] at e; have := L0'.out g e; exact Below.heap_setCell _ _ _ _ (by simp; omega))
  have p1 := own_same (own_same q1 (w' := w2.setCell ⟨w.heap.size + 1 + 1, 1, none⟩ (.slice u1 D.C.length d1)) (fun g e => by rw [ob_slice] at e; have := L1.out g e; exact Below.heap_setCell _ _ _ _ (by simp; omega))) (w' := (w2.setCell ⟨w.heap.size + 1 + 1, 1, none⟩ (.slice u1 D.C.length d1)).setCell ⟨w.heap.size + 1 + 1, 2, none⟩ (.bool D.A)) (fun g e => by rw [ob_slice] at e; have := L1.out g e; exact Below.heap_setCell _ _ _ _ (by simp; omega))
  have HX : Hid (Box _ w.heap.size 26 _) := x3
  have HY : Hid (Box _ (w.heap.size + 1) 36 _) := y2
  have HZ : Hid (Box _ (w.heap.size + 1 + 1) 36 _) := z3
  have HB2 : Hid (Below w.heap.size w _) := hb2
  have P0 : Hid (World.ownsRow _ w.heap.size 9 1 _ _ _) := p0
  have P1 : Hid (World.ownsRow _ w.heap.size 103 2 _ _ _) := p1
  clear x1 x2 x3 y1 y2 z1 z2 z3 hb1 hb2 p0 p1 q0 q1
  go_wp2_with fail
  refine (c_toI' a2 _ c2 D.K _ (R2.out.below HB2.out) f2).mono ?_
  rintro e w3 ⟨⟨u2, d2, rfl, o2, l2⟩, hb⟩
  have hb1 : Below w.heap.size w w3 := HB2.out.trans (hb.mono HB2.out.size)
  have y1 := HY.out.belowS hb
  have z1 := HZ.out.belowS hb
  have q0 := own_below P0.out hb
  have q1 := own_below P1.out hb
  have q2 : w3.ownsRow w.heap.size 3 1 (.slice u2 D.K.length d2) D.K.length (D.K.map (Value.int .i64)) := o2.down HB2.out.size
  have hs3 : w2.heap.size ≤ w3.heap.size := by have := hb.size; simpa using this
  have L2 : Hid (∀ g, ob u2 = some g → w2.heap.size ≤ g ∧ g < w3.heap.size) := fun g e => by have := l2 g e; simpa using this
  have Q0 : Hid (w3.ownsRow w.heap.size 9 1 (.slice u0 D.S.length d0) D.S.length (D.S.map Value.string)) := q0
  have Q1 : Hid (w3.ownsRow w.heap.size 103 2 (.slice u1 D.C.length d1) D.C.length (cellsP D.C)) := q1
  have Q2 : Hid (w3.ownsRow w.heap.size 3 1 (.slice u2 D.K.length d2) D.K.length (D.K.map (Value.int .i64))) := q2
  clear hb HX HY HZ HB2 P0 P1 o2 l2 v1 v2 v3 v4 v5 v6 v7 q0 q1 q2
  have v0 := z1.cell 0
  have v1 := z1.cell 1
  have v2 := z1.cell 2
  have v3 := z1.cell 3
  have v4 := z1.thaw 3
  have s0 := y1.cell 0
  have s1 := y1.cell 1
  have s2 := y1.cell 2
  have s3 := y1.cell 3
  have t0 := y1.thaw 0
  have t1 := y1.thaw 1
  have t2 := y1.thaw 2
  have t3 := y1.thaw 3
  simp at v0 v1 v2 v3 s0 s1 s2 s3
  have y2 := y1.setOther ⟨w.heap.size + 1 + 1, 3, none⟩ (.slice u2 D.K.length d2) (show w.heap.size + 1 ≠ w.heap.size + 1 + 1 by omega)
  have HY : Hid (Box (w3.setCell ⟨w.heap.size + 1 + 1, 3, none⟩ (.slice u2 D.K.length d2)) (w.heap.size + 1) 36 #[.slice none 0 0, .slice none 0 0, .bool false, .slice none 0 0]) := y2
  have HB3 : Hid (Below w.heap.size w (w3.setCell ⟨w.heap.size + 1 + 1, 3, none⟩ (.slice u2 D.K.length d2))) := hb1.setCell (by simp; omega) _
  clear y1 z1 y2 hb1
  go_wp2
  refine ret_box1 Tryd.results17 rfl rfl (put4_box HY.out _ _ _ _) ⟨⟨⟨u0, D.S.length, d0, u1, D.C.length, d1, D.A, u2, D.K.length, d2⟩, rfl, rfl, ?_, ?_, ?_, Nat.le_refl _, fun g e => ?_, fun g e => ?_, fun g e => ?_⟩, put4_below HB3.out (by omega) _ _ _ _⟩
  · refine own_same Q0.out fun g e => ?_
    rw [ob_slice] at e
    have := L0'.out g e
    rw [put4_same _ _ _ _ _ _ _ (by omega), Below.heap_setCell _ _ _ _ (by simp; omega)]
  · refine own_same Q1.out fun g e => ?_
    rw [ob_slice] at e
    have := L1.out g e
    rw [put4_same _ _ _ _ _ _ _ (by omega), Below.heap_setCell _ _ _ _ (by simp; omega)]
  · refine own_same Q2.out fun g e => ?_
    rw [ob_slice] at e
    have := L2.out g e
    rw [put4_same _ _ _ _ _ _ _ (by omega), Below.heap_setCell _ _ _ _ (by simp; omega)]
  · have h0 := L0'.out g e
    refine ⟨by omega, by simp; omega, fun e' => ?_, fun e' => ?_⟩
    · have := L1.out g e'; omega
    · have := L2.out g e'; omega
  · have h0 := L1.out g e
    refine ⟨by omega, by simp; omega, fun e' => ?_⟩
    have := L2.out g e'; omega
  · have h0 := L2.out g e
    exact ⟨by omega, by simp; omega⟩

end Go.Proofs.YtcokbogicbdoaaaDoor
