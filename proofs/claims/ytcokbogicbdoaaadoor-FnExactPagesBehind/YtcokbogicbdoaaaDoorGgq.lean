/-
  Pages: how they lie in memory, and the walks that copy, compare, size and mark them.
-/
import Derived.Test.YtcokbogicbdoaaaDoorZzab
namespace Go.Proofs.YtcokbogicbdoaaaDoor.G
open Go Go.RowKit
attribute [local go_sem ↓] Go.wp_at_zero Go.wp_at_succ

/-- A page's value: a number and a slice. -/
structure HG where
  l : Int
  a : Option Addr
  n : Nat
  c : Nat
/-- What it says. -/
structure DG where
  L : Int
  S : List ByteArray
def RdG (w : World) (h : HG) (D : DG) : Prop := h.l = D.L ∧ RdV w h.a h.n (D.S.map Value.string)
theorem RdG.below {w w' : World} {h : HG} {D : DG} (r : RdG w h D) (hb : Below w.heap.size w w') : RdG w' h D := ⟨r.1, r.2.below hb⟩
theorem RdG.len {w : World} {h : HG} {D : DG} (r : RdG w h D) : D.S.length = h.n := by simpa using r.2.1
def FitG (D : DG) : Prop := D.S.length ≤ 1048576 ∧ ∀ s ∈ D.S, s.size ≤ 1048576
/-- A page whose array is the call's own, made since B and ahead of E. -/
def OwnG (w : World) (B E : Nat) (h : HG) (D : DG) : Prop :=
  h.l = D.L ∧ w.ownsRow B 9 1 (.slice h.a h.n h.c) h.n (D.S.map Value.string) ∧ E ≤ w.heap.size ∧ ∀ g, ob h.a = some g → B ≤ g ∧ g < E
theorem OwnG.rd {w : World} {B E : Nat} {h : HG} {D : DG} (o : OwnG w B E h D) : RdG w h D := ⟨o.1, RdV.own o.2.1⟩
theorem OwnG.same {w w' : World} {B E : Nat} {h : HG} {D : DG} (o : OwnG w B E h D) (hsz : w.heap.size ≤ w'.heap.size) (hs : ∀ g, B ≤ g → g < E → w'.heap[g]? = w.heap[g]?) : OwnG w' B E h D := by
  obtain ⟨h1, h2, h5, h6⟩ := o
  refine ⟨h1, own_same h2 fun g e => ?_, by omega, h6⟩
  rw [ob_slice] at e; exact hs g (h6 g e).1 (h6 g e).2
theorem OwnG.below {w w' : World} {B E : Nat} {h : HG} {D : DG} (o : OwnG w B E h D) (hb : Below w.heap.size w w') : OwnG w' B E h D :=
  o.same hb.size fun g _ h2 => hb.block g (by have := o.2.2.1; omega)
theorem OwnG.inn {w w' : World} {B E B' E' : Nat} {h : HG} {D : DG} (o : OwnG w B E h D) (hb : Inn B' E' w w') (ha : E ≤ B' ∨ E' ≤ B) : OwnG w' B E h D :=
  o.same hb.size fun g h1 h2 => hb.block g (by have := o.2.2.1; omega) (by omega)
theorem OwnG.wide {w : World} {B E B' : Nat} {h : HG} {D : DG} (o : OwnG w B E h D) (hb : B' ≤ B) : OwnG w B' w.heap.size h D :=
  ⟨o.1, o.2.1.down hb, Nat.le_refl _, fun g e => ⟨by have := (o.2.2.2 g e).1; omega, by have := (o.2.2.2 g e).2; have := o.2.2.1; omega⟩⟩
def SrcG (h : HG) : Prop := h.a = none → h.c = 0
theorem OwnG.src {w : World} {B E : Nat} {h : HG} {D : DG} (o : OwnG w B E h D) : SrcG h := own_src o.2.1
theorem box2 {w : World} {g : Nat} {t : TypeId} {v0 v1 : Value} (h : Box w g t #[v0, v1]) : w.cell? ⟨g, 0, none⟩ = some v0 ∧ w.cell? ⟨g, 1, none⟩ = some v1 := ⟨h.cell 0, h.cell 1⟩

theorem loadVarG {w : World} {r : Nat} {v0 v1 : Value} (hb : Box w r 49 #[v0, v1]) : (loadVar 49 ⟨r, 0, none⟩).run Tryd.prog w = .ok (.agg #[v0, v1]) w := by
  have e0 : w.cell? ⟨r, 0, none⟩ = some v0 := hb.cell 0
  have e1 : w.cell? ⟨r, 1, none⟩ = some v1 := hb.cell 1
  simp [go_sem, e0, e1]
theorem retG1 {fn : Func} {p : Tmp} (h : fn.results = #[.cell p 49]) {R : Ending → World → Prop} {a : Act} {w : World} {r : Nat} {v0 v1 : Value} (hp : a.tmps.getD p undef = .pointer (some ⟨r, 0, none⟩)) (hd : a.defers = []) (hb : Box w r 49 #[v0, v1]) (hR : R (.returned (.agg #[v0, v1])) w) : bodyPost Tryd.prog fn R .ret a w := by
  refine bodyPost_ret ?_ hd hR
  have hp' : a.tmps[p]?.getD undef = .pointer (some ⟨r, 0, none⟩) := by simpa using hp
  simp only [results, h]
  simp [hp', asAddr, loadVarG hb]
theorem retG2 {fn : Func} {p u : Tmp} (h : fn.results = #[.cell p 49, .tmp u]) {R : Ending → World → Prop} {a : Act} {w : World} {r : Nat} {v0 v1 v : Value} (hp : a.tmps.getD p undef = .pointer (some ⟨r, 0, none⟩)) (hu : a.tmps.getD u undef = v) (hd : a.defers = []) (hb : Box w r 49 #[v0, v1]) (hR : R (.returned (.tuple #[.agg #[v0, v1], v])) w) : bodyPost Tryd.prog fn R .ret a w := by
  refine bodyPost_ret ?_ hd hR
  have hp' : a.tmps[p]?.getD undef = .pointer (some ⟨r, 0, none⟩) := by simpa using hp
  have hu' : a.tmps[u]?.getD undef = v := by simpa using hu
  simp only [results, h]
  simp [Result.andThen, hp', hu', asAddr, loadVarG hb]
theorem retG3 {fn : Func} {p u u' : Tmp} (h : fn.results = #[.cell p 49, .tmp u, .tmp u']) {R : Ending → World → Prop} {a : Act} {w : World} {r : Nat} {v0 v1 v v' : Value} (hp : a.tmps.getD p undef = .pointer (some ⟨r, 0, none⟩)) (hu : a.tmps.getD u undef = v) (hu2 : a.tmps.getD u' undef = v') (hd : a.defers = []) (hb : Box w r 49 #[v0, v1]) (hR : R (.returned (.tuple #[.agg #[v0, v1], v, v'])) w) : bodyPost Tryd.prog fn R .ret a w := by
  refine bodyPost_ret ?_ hd hR
  have hp' : a.tmps[p]?.getD undef = .pointer (some ⟨r, 0, none⟩) := by simpa using hp
  have hu' : a.tmps[u]?.getD undef = v := by simpa using hu
  have hv' : a.tmps[u']?.getD undef = v' := by simpa using hu2
  simp only [results, h]
  simp [Result.andThen, hp', hu', hv', asAddr, loadVarG hb]
theorem put2_box {V : World} {r : Nat} {t : TypeId} {x0 x1 : Value} (h : Box V r t #[x0, x1]) (v0 v1 : Value) : Box ((V.setCell ⟨r, 0, none⟩ v0).setCell ⟨r, 1, none⟩ v1) r t #[v0, v1] := by
  have := (h.set 0 v0).set 1 v1
  simpa using this
theorem put2_same (V : World) (r g : Nat) (v0 v1 : Value) (hg : g ≠ r) : ((V.setCell ⟨r, 0, none⟩ v0).setCell ⟨r, 1, none⟩ v1).heap[g]? = V.heap[g]? := by
  rw [Below.heap_setCell _ _ _ _ hg, Below.heap_setCell _ _ _ _ hg]
theorem put2_below {B : Nat} {w V : World} (hb : Below B w V) {r : Nat} (hr : B ≤ r) (v0 v1 : Value) : Below B w ((V.setCell ⟨r, 0, none⟩ v0).setCell ⟨r, 1, none⟩ v1) := (hb.setCell hr _).setCell hr _
theorem put2_size (V : World) (r : Nat) (v0 v1 : Value) : ((V.setCell ⟨r, 0, none⟩ v0).setCell ⟨r, 1, none⟩ v1).heap.size = V.heap.size := by simp
theorem OwnG.put2 {V : World} {B E : Nat} {h : HG} {D : DG} (o : OwnG V B E h D) {r : Nat} (hr : r < B ∨ E ≤ r) (v0 v1 : Value) : OwnG ((V.setCell ⟨r, 0, none⟩ v0).setCell ⟨r, 1, none⟩ v1) B E h D :=
  o.same (by simp) fun g h1 h2 => put2_same V r g v0 v1 (by omega)

/-! ### The walks -/
set_option maxHeartbeats 2000000 in
theorem c_eqPage (h h' : HG) (D : DG) (w : World) (r : RdG w h D) (r' : RdG w h' D) (hf : FitG D) :
    Calls Tryd.prog 76 #[.agg #[.int .i64 h.l, .slice h.a h.n h.c], .agg #[.int .i64 h'.l, .slice h'.a h'.n h'.c]] w fun e w' => e = .returned (.bool true) ∧ Below w.heap.size w w' := by
  have k0 := r.len
  have k0' := r'.len
  obtain ⟨f0, _⟩ := hf
  obtain ⟨rl, r0⟩ := r
  obtain ⟨rl', r0'⟩ := r'
  obtain ⟨l, a, n, c⟩ := h
  obtain ⟨l', a', n', c'⟩ := h'
  simp only at *
  subst k0 k0' rl rl'
  have R0 : Hid (RdV w a D.S.length (D.S.map Value.string)) := r0
  have R0' : Hid (RdV w a' D.S.length (D.S.map Value.string)) := r0'
  clear r0 r0'
  obtain ⟨V, hV⟩ : ∃ V, (w.alloc (.cells #[.int .i64 D.L, .slice a D.S.length c] 49)).alloc (.cells #[.int .i64 D.L, .slice a' D.S.length c'] 49) = V := ⟨_, rfl⟩
  have HB : Hid (Below w.heap.size w V) := by unfold Hid; rw [← hV]; exact ((Below.refl _ _).alloc (Nat.le_refl _) _).alloc (by simp) _
  have bx1 : Box V w.heap.size 49 #[.int .i64 D.L, .slice a D.S.length c] := by rw [← hV]; exact (Box.new _ _ _).alloc _
  have bx2 : Box V (w.heap.size + 1) 49 #[.int .i64 D.L, .slice a' D.S.length c'] := by rw [← hV]; exact Box.new2 _ _ _ _
  obtain ⟨v0, v1⟩ := box2 bx1
  obtain ⟨u0, u1⟩ := box2 bx2
  clear bx1 bx2
  have hne : (D.L != D.L) = false := by simp
  go_enter Tryd.func76, Tryd.ntmps76
  go_wp2_with fail
  refine (c_eqS a a' _ c _ c' D.S D.S _ (R0.out.below HB.out) (R0'.out.below HB.out) f0 f0).mono ?_
  rintro e w1 ⟨rfl, q1, hq⟩
  rw [decide_eq_true (rfl : D.S = D.S)]
  have hb1 : Below w.heap.size w w1 := by rw [hq]; exact below_drewN HB.out q1
  clear hq hV HB v0 v1 u0 u1
  go_wp2
  go_ret
  exact ⟨rfl, hb1⟩

set_option maxHeartbeats 2000000 in
theorem c_szPage (h : HG) (D : DG) (left : Int) (w : World) (r : RdG w h D) (m0 : h.n ≤ maxLen) (s0 : ∀ s ∈ D.S, s.size ≤ maxLen) (hl0 : 0 ≤ left) (hl1 : left ≤ 1048576) :
    Calls Tryd.prog 65 #[.agg #[.int .i64 h.l, .slice h.a h.n h.c], .int .i64 left] w fun e w' => (∃ z : Int, e = .returned (.int .i64 z) ∧ (0 ≤ z → FitG D)) ∧ Below w.heap.size w w' := by
  have k0 := r.len
  obtain ⟨rl, r0⟩ := r
  obtain ⟨l, a, n, c⟩ := h
  simp only at *
  subst k0 rl
  have R0 : Hid (RdV w a D.S.length (D.S.map Value.string)) := r0
  have S0 : Hid (∀ s ∈ D.S, s.size ≤ maxLen) := s0
  clear r0 s0
  obtain ⟨V, hV⟩ : ∃ V, w.alloc (.cells #[.int .i64 D.L, .slice a D.S.length c] 82) = V := ⟨_, rfl⟩
  have HB : Hid (Below w.heap.size w V) := by unfold Hid; rw [← hV]; exact (Below.refl _ _).alloc (Nat.le_refl _) _
  have bx1 : Box V w.heap.size 82 #[.int .i64 D.L, .slice a D.S.length c] := by rw [← hV]; exact Box.new _ _ _
  obtain ⟨v0, v1⟩ := box2 bx1
  clear bx1
  go_enter Tryd.func65, Tryd.ntmps65
  go_wp2_with fail
  refine (c_szS a _ c D.S left V (R0.out.below HB.out) m0 S0.out hl0 hl1).mono ?_
  rintro e w1 ⟨rfl, hq⟩
  have hb1 := HB.out
  rw [← hq] at hb1
  clear hq HB hV v0 v1
  obtain ⟨z1, hz1⟩ : ∃ z, z = sizeS left D.S.length D.S := ⟨_, rfl⟩
  rw [← hz1]
  by_cases hn1 : z1 < 0
  · clear hz1
    go_wp2
    go_ret
    exact ⟨⟨_, rfl, fun h => absurd h (by omega)⟩, hb1⟩
  · have q1 : Hid (FitG D) := by
      unfold sizeS at hz1
      by_cases h1 : left - D.S.length < 0
      · rw [if_pos h1] at hz1; omega
      · rw [if_neg h1] at hz1
        have := szL_ok D.S (left - D.S.length) (by omega) (by omega)
        exact ⟨by omega, fun s h => by have := this.2 s h; omega⟩
    clear hz1
    go_wp2
    go_ret
    exact ⟨⟨_, rfl, fun _ => q1.out⟩, hb1⟩

def marksT (k0 n : Nat) : List ByteArray := (List.range n).map fun i => mtext (k0 + i)
theorem marksT_map (k0 n : Nat) : (marksT k0 n).map Value.string = marksS k0 n := by unfold marksT marksS; rw [List.map_map]; rfl
def markG (h : HG) : DG := ⟨h.l, marksT 1 h.n⟩
/-! ### Copies -/
theorem c_toS' (a : Option Addr) (n cap : Nat) (ss : List ByteArray) (w : World) (hr : RdV w a n (ss.map Value.string)) (hn : n ≤ 1048576) :
    Calls Tryd.prog 46 #[.slice a n cap] w fun e w' => (∃ a' c', e = .returned (.slice a' n c') ∧ w'.ownsRow w.heap.size 9 1 (.slice a' n c') n (ss.map Value.string) ∧ ∀ g, ob a' = some g → w.heap.size ≤ g ∧ g < w'.heap.size) ∧ Below w.heap.size w w' := by
  refine (c_toS a n cap _ w hr hn).mono ?_
  rintro e w1 ⟨rfl, ho, hb⟩
  exact ⟨⟨_, _, rfl, ho, fun g e => ho.lt g (by rw [ob_slice]; exact e)⟩, hb⟩
set_option maxHeartbeats 4000000 in
theorem c_toPage (h : HG) (D : DG) (w : World) (r : RdG w h D) (hf : FitG D) :
    Calls Tryd.prog 71 #[.agg #[.int .i64 h.l, .slice h.a h.n h.c]] w fun e w' => (∃ h' : HG, e = .returned (.agg #[.int .i64 h'.l, .slice h'.a h'.n h'.c]) ∧ OwnG w' w.heap.size w'.heap.size h' D) ∧ Below w.heap.size w w' := by
  have k0 := r.len
  obtain ⟨f0, _⟩ := hf
  obtain ⟨rl, r0⟩ := r
  obtain ⟨l, a, n, c⟩ := h
  simp only at *
  subst k0 rl
  have R0 : Hid (RdV w a D.S.length (D.S.map Value.string)) := r0
  clear r0
  obtain ⟨V, hV⟩ : ∃ V, ((w.alloc (.cells #[.int .i64 D.L, .slice a D.S.length c] 82)).alloc (.cells #[.int .i64 0, .slice none 0 0] 49)).alloc (.cells #[.int .i64 0, .slice none 0 0] 49) = V := ⟨_, rfl⟩
  have HB : Hid (Below w.heap.size w V) := by unfold Hid; rw [← hV]; exact (((Below.refl _ _).alloc (Nat.le_refl _) _).alloc (by simp) _).alloc (by simp; omega) _
  have BX : Box V w.heap.size 82 #[.int .i64 D.L, .slice a D.S.length c] := by rw [← hV]; exact ((Box.new _ _ _).alloc _).alloc _
  have BR : Box V (w.heap.size + 1) 49 #[.int .i64 0, .slice none 0 0] := by rw [← hV]; exact (Box.new2 _ _ _ _).alloc _
  have BO : Box V (w.heap.size + 1 + 1) 49 #[.int .i64 0, .slice none 0 0] := by
    have := Box.new2 (w.alloc (.cells #[.int .i64 D.L, .slice a D.S.length c] 82)) (.cells #[.int .i64 0, .slice none 0 0] 49) #[.int .i64 0, .slice none 0 0] 49
    rw [hV] at this
    rwa [show (w.alloc (.cells #[.int .i64 D.L, .slice a D.S.length c] 82)).heap.size = w.heap.size + 1 by simp] at this
  have hsz : V.heap.size = w.heap.size + 1 + 1 + 1 := by rw [← hV]; simp
  obtain ⟨V1, hV1⟩ : ∃ V1, V.setCell ⟨w.heap.size + 1 + 1, 0, none⟩ (.int .i64 D.L) = V1 := ⟨_, rfl⟩
  have HB1 : Hid (Below w.heap.size w V1) := by unfold Hid; rw [← hV1]; exact HB.out.setCell (by simp; omega) _
  have BX1 : Hid (Box V1 w.heap.size 82 #[.int .i64 D.L, .slice a D.S.length c]) := by unfold Hid; rw [← hV1]; exact BX.setOther _ _ (by simp; omega)
  have BR1 : Hid (Box V1 (w.heap.size + 1) 49 #[.int .i64 0, .slice none 0 0]) := by unfold Hid; rw [← hV1]; exact BR.setOther _ _ (by simp)
  have BO1 : Hid (Box V1 (w.heap.size + 1 + 1) 49 #[.int .i64 D.L, .slice none 0 0]) := by unfold Hid; rw [← hV1]; have := BO.set 0 (.int .i64 D.L); simpa using this
  have hsz1 : Hid (V1.heap.size = w.heap.size + 1 + 1 + 1) := by unfold Hid; rw [← hV1]; simp [hsz]
  obtain ⟨v0, v1⟩ := box2 BX
  obtain ⟨x0, x1⟩ := box2 BX1.out
  obtain ⟨u0, u1⟩ := box2 BO
  have t0 := BO.thaw 0
  clear BX BR BO hsz
  go_enter Tryd.func71, Tryd.ntmps71
  go_wp2_with fail
  refine (c_toS' a _ c D.S V1 (R0.out.below HB1.out) f0).mono ?_
  rintro e w2 ⟨⟨a2, c2, rfl, o2, l2⟩, hb⟩
  have HB2 : Hid (Below w.heap.size w w2) := HB1.out.trans (hb.mono HB1.out.size)
  have BR2 := BR1.out.belowS hb
  have BO2 := BO1.out.belowS hb
  obtain ⟨V3, hV3⟩ : ∃ V3, w2.setCell ⟨w.heap.size + 1 + 1, 1, none⟩ (.slice a2 D.S.length c2) = V3 := ⟨_, rfl⟩
  have HB3 : Hid (Below w.heap.size w V3) := by unfold Hid; rw [← hV3]; exact HB2.out.setCell (by simp; omega) _
  have BR3 : Hid (Box V3 (w.heap.size + 1) 49 #[.int .i64 0, .slice none 0 0]) := by unfold Hid; rw [← hV3]; exact BR2.setOther _ _ (by simp)
  have BO3 : Hid (Box V3 (w.heap.size + 1 + 1) 49 #[.int .i64 D.L, .slice a2 D.S.length c2]) := by unfold Hid; rw [← hV3]; have := BO2.set 1 (.slice a2 D.S.length c2); simpa using this
  have hs2 := hb.size
  have O3 : Hid (OwnG V3 V1.heap.size V3.heap.size ⟨D.L, a2, D.S.length, c2⟩ D) := by
    refine ⟨rfl, own_same o2 fun g e => ?_, Nat.le_refl _, fun g e => ?_⟩
    · rw [ob_slice] at e; rw [← hV3]; exact Below.heap_setCell _ _ _ _ (by have := l2 g e; have := hsz1.out; simp; omega)
    · have := l2 g e; rw [← hV3]; simpa using this
  clear v0 v1 x0 x1 u0 u1 t0
  obtain ⟨u0, u1⟩ := box2 BO2
  have t1 := BO2.thaw 1
  obtain ⟨y0, y1⟩ := box2 BO3.out
  obtain ⟨r0, r1⟩ := box2 BR3.out
  have t2 := BR3.out.thaw 0
  have t3 := BR3.out.thaw 1
  have hh : w.heap.size + 1 + 1 + 1 ≤ V1.heap.size := by have := hsz1.out; omega
  clear hb HB2 BR2 BO2 o2 l2 hV hV1 BX1 BR1 BO1 HB1 hsz1
  go_wp2
  refine retG1 Tryd.results71 rfl rfl (put2_box BR3.out _ _) ⟨⟨⟨D.L, a2, D.S.length, c2⟩, rfl, ?_⟩, put2_below HB3.out (by omega) _ _⟩
  have := O3.out.put2 (r := w.heap.size + 1) (.inl (by omega)) (.int .i64 D.L) (.slice a2 D.S.length c2)
  have q := this.wide (B' := w.heap.size) (by omega)
  exact q

end Go.Proofs.YtcokbogicbdoaaaDoor.G
