/-
  Bytes with their sum behind: the walk of seal.
-/
import Derived.Test.YtfibdpfhfgnbiaaGreatDoorZzab
import Derived.Test.YtfibdpfhfgnbiaaGreatDoorRfq
namespace Go.Proofs.YtfibdpfhfgnbiaaGreatDoor.G
open Go Go.RowKit
attribute [local go_sem ↓] Go.wp_at_zero Go.wp_at_succ

/-- A page's value: a number and a slice. -/
structure HG where
  l : Int
  a : Option Addr
  n : Nat
  c : Nat
/-- What it says. -/
structure DG where
  L : Int
  S : List ByteArray
def RdG (w : World) (h : HG) (D : DG) : Prop := h.l = D.L ∧ RdV w h.a h.n (D.S.map Value.string)
theorem RdG.below {w w' : World} {h : HG} {D : DG} (r : RdG w h D) (hb : Below w.heap.size w w') : RdG w' h D := ⟨r.1, r.2.below hb⟩
theorem RdG.len {w : World} {h : HG} {D : DG} (r : RdG w h D) : D.S.length = h.n := by simpa using r.2.1
def FitG (D : DG) : Prop := D.S.length ≤ 1048576 ∧ ∀ s ∈ D.S, s.size ≤ 1048576
/-- A page whose array is the call's own, made since B and ahead of E. -/
def OwnG (w : World) (B E : Nat) (h : HG) (D : DG) : Prop :=
  h.l = D.L ∧ w.ownsRow B 9 1 (.slice h.a h.n h.c) h.n (D.S.map Value.string) ∧ E ≤ w.heap.size ∧ ∀ g, ob h.a = some g → B ≤ g ∧ g < E
theorem OwnG.rd {w : World} {B E : Nat} {h : HG} {D : DG} (o : OwnG w B E h D) : RdG w h D := ⟨o.1, RdV.own o.2.1⟩
theorem OwnG.same {w w' : World} {B E : Nat} {h : HG} {D : DG} (o : OwnG w B E h D) (hsz : w.heap.size ≤ w'.heap.size) (hs : ∀ g, B ≤ g → g < E → w'.heap[g]? = w.heap[g]?) : OwnG w' B E h D := by
  obtain ⟨h1, h2, h5, h6⟩ := o
  refine ⟨h1, own_same h2 fun g e => ?_, by omega, h6⟩
  rw [ob_slice] at e; exact hs g (h6 g e).1 (h6 g e).2
theorem OwnG.below {w w' : World} {B E : Nat} {h : HG} {D : DG} (o : OwnG w B E h D) (hb : Below w.heap.size w w') : OwnG w' B E h D :=
  o.same hb.size fun g _ h2 => hb.block g (by have := o.2.2.1; omega)
theorem OwnG.inn {w w' : World} {B E B' E' : Nat} {h : HG} {D : DG} (o : OwnG w B E h D) (hb : Inn B' E' w w') (ha : E ≤ B' ∨ E' ≤ B) : OwnG w' B E h D :=
  o.same hb.size fun g h1 h2 => hb.block g (by have := o.2.2.1; omega) (by omega)
theorem OwnG.wide {w : World} {B E B' : Nat} {h : HG} {D : DG} (o : OwnG w B E h D) (hb : B' ≤ B) : OwnG w B' w.heap.size h D :=
  ⟨o.1, o.2.1.down hb, Nat.le_refl _, fun g e => ⟨by have := (o.2.2.2 g e).1; omega, by have := (o.2.2.2 g e).2; have := o.2.2.1; omega⟩⟩
def SrcG (h : HG) : Prop := h.a = none → h.c = 0
theorem OwnG.src {w : World} {B E : Nat} {h : HG} {D : DG} (o : OwnG w B E h D) : SrcG h := own_src o.2.1
theorem box2 {w : World} {g : Nat} {t : TypeId} {v0 v1 : Value} (h : Box w g t #[v0, v1]) : w.cell? ⟨g, 0, none⟩ = some v0 ∧ w.cell? ⟨g, 1, none⟩ = some v1 := ⟨h.cell 0, h.cell 1⟩

theorem loadVarG {w : World} {r : Nat} {v0 v1 : Value} (hb : Box w r 140 #[v0, v1]) : (loadVar 140 ⟨r, 0, none⟩).run Tryz.prog w = .ok (.agg #[v0, v1]) w := by
  have e0 : w.cell? ⟨r, 0, none⟩ = some v0 := hb.cell 0
  have e1 : w.cell? ⟨r, 1, none⟩ = some v1 := hb.cell 1
  simp [go_sem, e0, e1]
theorem retG1 {fn : Func} {p : Tmp} (h : fn.results = #[.cell p 140]) {R : Ending → World → Prop} {a : Act} {w : World} {r : Nat} {v0 v1 : Value} (hp : a.tmps.getD p undef = .pointer (some ⟨r, 0, none⟩)) (hd : a.defers = []) (hb : Box w r 140 #[v0, v1]) (hR : R (.returned (.agg #[v0, v1])) w) : bodyPost Tryz.prog fn R .ret a w := by
  refine bodyPost_ret ?_ hd hR
  have hp' : a.tmps[p]?.getD undef = .pointer (some ⟨r, 0, none⟩) := by simpa using hp
  simp only [results, h]
  simp [hp', asAddr, loadVarG hb]
theorem retG2 {fn : Func} {p u : Tmp} (h : fn.results = #[.cell p 140, .tmp u]) {R : Ending → World → Prop} {a : Act} {w : World} {r : Nat} {v0 v1 v : Value} (hp : a.tmps.getD p undef = .pointer (some ⟨r, 0, none⟩)) (hu : a.tmps.getD u undef = v) (hd : a.defers = []) (hb : Box w r 140 #[v0, v1]) (hR : R (.returned (.tuple #[.agg #[v0, v1], v])) w) : bodyPost Tryz.prog fn R .ret a w := by
  refine bodyPost_ret ?_ hd hR
  have hp' : a.tmps[p]?.getD undef = .pointer (some ⟨r, 0, none⟩) := by simpa using hp
  have hu' : a.tmps[u]?.getD undef = v := by simpa using hu
  simp only [results, h]
  simp [Result.andThen, hp', hu', asAddr, loadVarG hb]
theorem retG3 {fn : Func} {p u u' : Tmp} (h : fn.results = #[.cell p 140, .tmp u, .tmp u']) {R : Ending → World → Prop} {a : Act} {w : World} {r : Nat} {v0 v1 v v' : Value} (hp : a.tmps.getD p undef = .pointer (some ⟨r, 0, none⟩)) (hu : a.tmps.getD u undef = v) (hu2 : a.tmps.getD u' undef = v') (hd : a.defers = []) (hb : Box w r 140 #[v0, v1]) (hR : R (.returned (.tuple #[.agg #[v0, v1], v, v'])) w) : bodyPost Tryz.prog fn R .ret a w := by
  refine bodyPost_ret ?_ hd hR
  have hp' : a.tmps[p]?.getD undef = .pointer (some ⟨r, 0, none⟩) := by simpa using hp
  have hu' : a.tmps[u]?.getD undef = v := by simpa using hu
  have hv' : a.tmps[u']?.getD undef = v' := by simpa using hu2
  simp only [results, h]
  simp [Result.andThen, hp', hu', hv', asAddr, loadVarG hb]
theorem put2_box {V : World} {r : Nat} {t : TypeId} {x0 x1 : Value} (h : Box V r t #[x0, x1]) (v0 v1 : Value) : Box ((V.setCell ⟨r, 0, none⟩ v0).setCell ⟨r, 1, none⟩ v1) r t #[v0, v1] := by
  have := (h.set 0 v0).set 1 v1
  simpa using this
theorem put2_same (V : World) (r g : Nat) (v0 v1 : Value) (hg : g ≠ r) : ((V.setCell ⟨r, 0, none⟩ v0).setCell ⟨r, 1, none⟩ v1).heap[g]? = V.heap[g]? := by
  rw [Below.heap_setCell _ _ _ _ hg, Below.heap_setCell _ _ _ _ hg]
theorem put2_below {B : Nat} {w V : World} (hb : Below B w V) {r : Nat} (hr : B ≤ r) (v0 v1 : Value) : Below B w ((V.setCell ⟨r, 0, none⟩ v0).setCell ⟨r, 1, none⟩ v1) := (hb.setCell hr _).setCell hr _
theorem put2_size (V : World) (r : Nat) (v0 v1 : Value) : ((V.setCell ⟨r, 0, none⟩ v0).setCell ⟨r, 1, none⟩ v1).heap.size = V.heap.size := by simp
theorem OwnG.put2 {V : World} {B E : Nat} {h : HG} {D : DG} (o : OwnG V B E h D) {r : Nat} (hr : r < B ∨ E ≤ r) (v0 v1 : Value) : OwnG ((V.setCell ⟨r, 0, none⟩ v0).setCell ⟨r, 1, none⟩ v1) B E h D :=
  o.same (by simp) fun g h1 h2 => put2_same V r g v0 v1 (by omega)

/-! ### The walks -/
set_option maxHeartbeats 2000000 in
theorem c_eqPage (h h' : HG) (D : DG) (w : World) (r : RdG w h D) (r' : RdG w h' D) (hf : FitG D) :
    Calls Tryz.prog 250 #[.agg #[.int .i64 h.l, .slice h.a h.n h.c], .agg #[.int .i64 h'.l, .slice h'.a h'.n h'.c]] w fun e w' => e = .returned (.bool true) ∧ Below w.heap.size w w' := by
  have k0 := r.len
  have k0' := r'.len
  obtain ⟨f0, _⟩ := hf
  obtain ⟨rl, r0⟩ := r
  obtain ⟨rl', r0'⟩ := r'
  obtain ⟨l, a, n, c⟩ := h
  obtain ⟨l', a', n', c'⟩ := h'
  simp only at *
  subst k0 k0' rl rl'
  have R0 : Hid (RdV w a D.S.length (D.S.map Value.string)) := r0
  have R0' : Hid (RdV w a' D.S.length (D.S.map Value.string)) := r0'
  clear r0 r0'
  obtain ⟨V, hV⟩ : ∃ V, (w.alloc (.cells #[.int .i64 D.L, .slice a D.S.length c] 140)).alloc (.cells #[.int .i64 D.L, .slice a' D.S.length c'] 140) = V := ⟨_, rfl⟩
  have HB : Hid (Below w.heap.size w V) := by unfold Hid; rw [← hV]; exact ((Below.refl _ _).alloc (Nat.le_refl _) _).alloc (by simp) _
  have bx1 : Box V w.heap.size 140 #[.int .i64 D.L, .slice a D.S.length c] := by rw [← hV]; exact (Box.new _ _ _).alloc _
  have bx2 : Box V (w.heap.size + 1) 140 #[.int .i64 D.L, .slice a' D.S.length c'] := by rw [← hV]; exact Box.new2 _ _ _ _
  obtain ⟨v0, v1⟩ := box2 bx1
  obtain ⟨u0, u1⟩ := box2 bx2
  clear bx1 bx2
  have hne : (D.L != D.L) = false := by simp
  go_enter Tryz.func250, Tryz.ntmps250
  go_wp2_with fail
  refine (c_eqS a a' _ c _ c' D.S D.S _ (R0.out.below HB.out) (R0'.out.below HB.out) f0 f0).mono ?_
  rintro e w1 ⟨rfl, q1, hq⟩
  rw [decide_eq_true (rfl : D.S = D.S)]
  have hb1 : Below w.heap.size w w1 := by rw [hq]; exact below_drewN HB.out q1
  clear hq hV HB v0 v1 u0 u1
  go_wp2
  go_ret
  exact ⟨rfl, hb1⟩

set_option maxHeartbeats 2000000 in
theorem c_szPage (h : HG) (D : DG) (left : Int) (w : World) (r : RdG w h D) (m0 : h.n ≤ maxLen) (s0 : ∀ s ∈ D.S, s.size ≤ maxLen) (hl0 : 0 ≤ left) (hl1 : left ≤ 1048576) :
    Calls Tryz.prog 243 #[.agg #[.int .i64 h.l, .slice h.a h.n h.c], .int .i64 left] w fun e w' => (∃ z : Int, e = .returned (.int .i64 z) ∧ (0 ≤ z → FitG D)) ∧ Below w.heap.size w w' := by
  have k0 := r.len
  obtain ⟨rl, r0⟩ := r
  obtain ⟨l, a, n, c⟩ := h
  simp only at *
  subst k0 rl
  have R0 : Hid (RdV w a D.S.length (D.S.map Value.string)) := r0
  have S0 : Hid (∀ s ∈ D.S, s.size ≤ maxLen) := s0
  clear r0 s0
  obtain ⟨V, hV⟩ : ∃ V, w.alloc (.cells #[.int .i64 D.L, .slice a D.S.length c] 217) = V := ⟨_, rfl⟩
  have HB : Hid (Below w.heap.size w V) := by unfold Hid; rw [← hV]; exact (Below.refl _ _).alloc (Nat.le_refl _) _
  have bx1 : Box V w.heap.size 217 #[.int .i64 D.L, .slice a D.S.length c] := by rw [← hV]; exact Box.new _ _ _
  obtain ⟨v0, v1⟩ := box2 bx1
  clear bx1
  go_enter Tryz.func243, Tryz.ntmps243
  go_wp2_with fail
  refine (c_szS a _ c D.S left V (R0.out.below HB.out) m0 S0.out hl0 hl1).mono ?_
  rintro e w1 ⟨rfl, hq⟩
  have hb1 := HB.out
  rw [← hq] at hb1
  clear hq HB hV v0 v1
  obtain ⟨z1, hz1⟩ : ∃ z, z = sizeS left D.S.length D.S := ⟨_, rfl⟩
  rw [← hz1]
  by_cases hn1 : z1 < 0
  · clear hz1
    go_wp2
    go_ret
    exact ⟨⟨_, rfl, fun h => absurd h (by omega)⟩, hb1⟩
  · have q1 : Hid (FitG D) := by
      unfold sizeS at hz1
      by_cases h1 : left - D.S.length < 0
      · rw [if_pos h1] at hz1; omega
      · rw [if_neg h1] at hz1
        have := szL_ok D.S (left - D.S.length) (by omega) (by omega)
        exact ⟨by omega, fun s h => by have := this.2 s h; omega⟩
    clear hz1
    go_wp2
    go_ret
    exact ⟨⟨_, rfl, fun _ => q1.out⟩, hb1⟩

def marksT (k0 n : Nat) : List ByteArray := (List.range n).map fun i => mtext (k0 + i)
theorem marksT_map (k0 n : Nat) : (marksT k0 n).map Value.string = marksS k0 n := by unfold marksT marksS; rw [List.map_map]; rfl
def markG (h : HG) : DG := ⟨h.l, marksT 1 h.n⟩
/-! ### Copies -/
theorem c_toS' (a : Option Addr) (n cap : Nat) (ss : List ByteArray) (w : World) (hr : RdV w a n (ss.map Value.string)) (hn : n ≤ 1048576) :
    Calls Tryz.prog 180 #[.slice a n cap] w fun e w' => (∃ a' c', e = .returned (.slice a' n c') ∧ w'.ownsRow w.heap.size 9 1 (.slice a' n c') n (ss.map Value.string) ∧ ∀ g, ob a' = some g → w.heap.size ≤ g ∧ g < w'.heap.size) ∧ Below w.heap.size w w' := by
  refine (c_toS a n cap _ w hr hn).mono ?_
  rintro e w1 ⟨rfl, ho, hb⟩
  exact ⟨⟨_, _, rfl, ho, fun g e => ho.lt g (by rw [ob_slice]; exact e)⟩, hb⟩
set_option maxHeartbeats 4000000 in
theorem c_toPage (h : HG) (D : DG) (w : World) (r : RdG w h D) (hf : FitG D) :
    Calls Tryz.prog 246 #[.agg #[.int .i64 h.l, .slice h.a h.n h.c]] w fun e w' => (∃ h' : HG, e = .returned (.agg #[.int .i64 h'.l, .slice h'.a h'.n h'.c]) ∧ OwnG w' w.heap.size w'.heap.size h' D) ∧ Below w.heap.size w w' := by
  have k0 := r.len
  obtain ⟨f0, _⟩ := hf
  obtain ⟨rl, r0⟩ := r
  obtain ⟨l, a, n, c⟩ := h
  simp only at *
  subst k0 rl
  have R0 : Hid (RdV w a D.S.length (D.S.map Value.string)) := r0
  clear r0
  obtain ⟨V, hV⟩ : ∃ V, ((w.alloc (.cells #[.int .i64 D.L, .slice a D.S.length c] 217)).alloc (.cells #[.int .i64 0, .slice none 0 0] 140)).alloc (.cells #[.int .i64 0, .slice none 0 0] 140) = V := ⟨_, rfl⟩
  have HB : Hid (Below w.heap.size w V) := by unfold Hid; rw [← hV]; exact (((Below.refl _ _).alloc (Nat.le_refl _) _).alloc (by simp) _).alloc (by simp; omega) _
  have BX : Box V w.heap.size 217 #[.int .i64 D.L, .slice a D.S.length c] := by rw [← hV]; exact ((Box.new _ _ _).alloc _).alloc _
  have BR : Box V (w.heap.size + 1) 140 #[.int .i64 0, .slice none 0 0] := by rw [← hV]; exact (Box.new2 _ _ _ _).alloc _
  have BO : Box V (w.heap.size + 1 + 1) 140 #[.int .i64 0, .slice none 0 0] := by
    have := Box.new2 (w.alloc (.cells #[.int .i64 D.L, .slice a D.S.length c] 217)) (.cells #[.int .i64 0, .slice none 0 0] 140) #[.int .i64 0, .slice none 0 0] 140
    rw [hV] at this
    rwa [show (w.alloc (.cells #[.int .i64 D.L, .slice a D.S.length c] 217)).heap.size = w.heap.size + 1 by simp] at this
  have hsz : V.heap.size = w.heap.size + 1 + 1 + 1 := by rw [← hV]; simp
  obtain ⟨V1, hV1⟩ : ∃ V1, V.setCell ⟨w.heap.size + 1 + 1, 0, none⟩ (.int .i64 D.L) = V1 := ⟨_, rfl⟩
  have HB1 : Hid (Below w.heap.size w V1) := by unfold Hid; rw [← hV1]; exact HB.out.setCell (by simp; omega) _
  have BX1 : Hid (Box V1 w.heap.size 217 #[.int .i64 D.L, .slice a D.S.length c]) := by unfold Hid; rw [← hV1]; exact BX.setOther _ _ (by simp; omega)
  have BR1 : Hid (Box V1 (w.heap.size + 1) 140 #[.int .i64 0, .slice none 0 0]) := by unfold Hid; rw [← hV1]; exact BR.setOther _ _ (by simp)
  have BO1 : Hid (Box V1 (w.heap.size + 1 + 1) 140 #[.int .i64 D.L, .slice none 0 0]) := by unfold Hid; rw [← hV1]; have := BO.set 0 (.int .i64 D.L); simpa using this
  have hsz1 : Hid (V1.heap.size = w.heap.size + 1 + 1 + 1) := by unfold Hid; rw [← hV1]; simp [hsz]
  obtain ⟨v0, v1⟩ := box2 BX
  obtain ⟨x0, x1⟩ := box2 BX1.out
  obtain ⟨u0, u1⟩ := box2 BO
  have t0 := BO.thaw 0
  clear BX BR BO hsz
  go_enter Tryz.func246, Tryz.ntmps246
  go_wp2_with fail
  refine (c_toS' a _ c D.S V1 (R0.out.below HB1.out) f0).mono ?_
  rintro e w2 ⟨⟨a2, c2, rfl, o2, l2⟩, hb⟩
  have HB2 : Hid (Below w.heap.size w w2) := HB1.out.trans (hb.mono HB1.out.size)
  have BR2 := BR1.out.belowS hb
  have BO2 := BO1.out.belowS hb
  obtain ⟨V3, hV3⟩ : ∃ V3, w2.setCell ⟨w.heap.size + 1 + 1, 1, none⟩ (.slice a2 D.S.length c2) = V3 := ⟨_, rfl⟩
  have HB3 : Hid (Below w.heap.size w V3) := by unfold Hid; rw [← hV3]; exact HB2.out.setCell (by simp; omega) _
  have BR3 : Hid (Box V3 (w.heap.size + 1) 140 #[.int .i64 0, .slice none 0 0]) := by unfold Hid; rw [← hV3]; exact BR2.setOther _ _ (by simp)
  have BO3 : Hid (Box V3 (w.heap.size + 1 + 1) 140 #[.int .i64 D.L, .slice a2 D.S.length c2]) := by unfold Hid; rw [← hV3]; have := BO2.set 1 (.slice a2 D.S.length c2); simpa using this
  have hs2 := hb.size
  have O3 : Hid (OwnG V3 V1.heap.size V3.heap.size ⟨D.L, a2, D.S.length, c2⟩ D) := by
    refine ⟨rfl, own_same o2 fun g e => ?_, Nat.le_refl _, fun g e => ?_⟩
    · rw [ob_slice] at e; rw [← hV3]; exact Below.heap_setCell _ _ _ _ (by have := l2 g e; have := hsz1.out; simp; omega)
    · have := l2 g e; rw [← hV3]; simpa using this
  clear v0 v1 x0 x1 u0 u1 t0
  obtain ⟨u0, u1⟩ := box2 BO2
  have t1 := BO2.thaw 1
  obtain ⟨y0, y1⟩ := box2 BO3.out
  obtain ⟨r0, r1⟩ := box2 BR3.out
  have t2 := BR3.out.thaw 0
  have t3 := BR3.out.thaw 1
  have hh : w.heap.size + 1 + 1 + 1 ≤ V1.heap.size := by have := hsz1.out; omega
  clear hb HB2 BR2 BO2 o2 l2 hV hV1 BX1 BR1 BO1 HB1 hsz1
  go_wp2
  refine retG1 Tryz.results246 rfl rfl (put2_box BR3.out _ _) ⟨⟨⟨D.L, a2, D.S.length, c2⟩, rfl, ?_⟩, put2_below HB3.out (by omega) _ _⟩
  have := O3.out.put2 (r := w.heap.size + 1) (.inl (by omega)) (.int .i64 D.L) (.slice a2 D.S.length c2)
  have q := this.wide (B' := w.heap.size) (by omega)
  exact q

end Go.Proofs.YtfibdpfhfgnbiaaGreatDoor.G
namespace Go.Proofs.YtfibdpfhfgnbiaaGreatDoor
open Go Go.RowKit

theorem son_get {zs : List Int} {p : Nat} (hz : ∀ z ∈ zs, 0 ≤ z ∧ z < 256) (h : p < (strOfNums zs).size) : (((strOfNums zs)[p]'h).toNat : Int) = zs.getD p 0 := by
  have hl : p < zs.length := by rwa [strOfNums_size] at h
  have e : (strOfNums zs)[p]'h = (zs.map fun n => UInt8.ofNat n.toNat)[p]'(by simpa using hl) := rfl
  rw [e, List.getElem_map, List.getD_eq_getElem?_getD, List.getElem?_eq_getElem hl]
  have := hz _ (List.getElem_mem hl)
  rw [UInt8.toNat_ofNat']
  simp
  omega
theorem son_cut (zs : List Int) (a b : Nat) : (strOfNums zs).extract a b = strOfNums ((zs.drop a).take (b - a)) := by
  have h := Lib.extract_data (strOfNums zs) a b
  rw [strOfNums_data] at h
  have h2 : ((strOfNums zs).extract a b).data.toList = (strOfNums ((zs.drop a).take (b - a))).data.toList := by
    rw [h, strOfNums_data, List.map_take, List.map_drop]
  have h3 : ((strOfNums zs).extract a b).data = (strOfNums ((zs.drop a).take (b - a))).data := by
    apply Array.ext'; exact h2
  cases hA : (strOfNums zs).extract a b with
  | mk d => rw [hA] at h3; cases hB : strOfNums ((zs.drop a).take (b - a)) with
    | mk d' => rw [hB] at h3; simp at h3; rw [h3]

/-- What the inner reader answers: the fields and true, or none and false. -/
def AnsI (w : World) (zs : List Int) (e : Ending) (w' : World) : Prop :=
  ∃ v, e = .returned (.tuple #[v, .bool (okR zs).isSome]) ∧ w'.ownsRow w.heap.size 9 1 v ((okR zs).getD []).length (((okR zs).getD []).map Value.string) ∧ Below w.heap.size w w'
theorem ansI_no {w w1 : World} {zs : List Int} (h : okR zs = none) (hb : Below w.heap.size w w1) : AnsI w zs (.returned (.tuple #[.slice (some ⟨w1.heap.size, 0, none⟩) 0 0, .bool false])) (w1.alloc (.cells #[] 9)) := by
  unfold AnsI
  rw [h]
  exact ⟨_, rfl, World.ownsRow_lit w1 #[] 0 hb.size (Nat.zero_le _) rfl, hb.alloc hb.size _⟩
theorem ansI_no' {w w1 : World} {zs : List Int} {v : Value} (h : okR zs = none) (ho : w1.ownsRow w.heap.size 9 1 v 0 []) (hb : Below w.heap.size w w1) : AnsI w zs (.returned (.tuple #[v, .bool false])) w1 := by
  unfold AnsI
  rw [h]
  exact ⟨_, rfl, ho, hb⟩
theorem ansI_yes {w w1 : World} {zs : List Int} {v : Value} {l : List ByteArray} (h : okR zs = some l) (ho : w1.ownsRow w.heap.size 9 1 v l.length (l.map Value.string)) (hb : Below w.heap.size w w1) : AnsI w zs (.returned (.tuple #[v, .bool true])) w1 := by
  unfold AnsI
  rw [h]
  exact ⟨_, rfl, ho, hb⟩

set_option maxRecDepth 100000 in
set_option maxHeartbeats 2000000 in
theorem c39 (zs : List Int) (w : World) (hz : ∀ z ∈ zs, 0 ≤ z ∧ z < 256) (hn : zs.length ≤ 65536) :
    Calls Tryz.prog 266 #[.string (strOfNums zs)] w (AnsI w zs) := by
  have hown0 : (w.alloc (.cells #[] 9)).ownsRow w.heap.size 9 1 (.slice (some ⟨w.heap.size, 0, none⟩) 0 0) 0 [] := World.ownsRow_lit w #[] 0 (Nat.le_refl _) (Nat.zero_le _) rfl
  have hb0 : Below w.heap.size w (w.alloc (.cells #[] 9)) := (Below.refl _ _).alloc (Nat.le_refl _) _
  obtain ⟨t, ht⟩ : ∃ t, t = strOfNums zs := ⟨_, rfl⟩
  rw [← ht]
  have hts : t.size = zs.length := by rw [ht, strOfNums_size]
  have HG : Hid (∀ p (h : p < t.size), ((t[p]'h).toNat : Int) = zs.getD p 0) := by
    intro p h; subst ht; exact son_get hz h
  have HC : Hid (∀ a b, t.extract a b = strOfNums ((zs.drop a).take (b - a))) := by
    intro a b; rw [ht]; exact son_cut zs a b
  clear ht
  cases zs with
  | nil =>
    have he : t.toList.isEmpty = true := by
      have : t.size = 0 := by simpa using hts
      rw [ByteArray.toList_eq]
      cases t with | mk d => simp [ByteArray.size] at this; simp [this]
    go_enter Tryz.func266, Tryz.ntmps266
    go_wp2
    go_ret2
    exact ansI_no' rfl hown0 hb0
  | cons z0 zt =>
    have hpos : 0 < t.size := by rw [hts]; simp
    have he : t.toList.isEmpty = false := by
      rw [ByteArray.toList_eq]
      cases t with | mk d => simp [ByteArray.size] at hpos; simp; intro h; simp [h] at hpos
    obtain ⟨h, hh⟩ := Int.eq_ofNat_of_zero_le (hz z0 (List.mem_cons_self ..)).1
    subst hh
    have h0 : ((t[0]'hpos).toNat : Int) = (h : Int) := by rw [HG.out 0 hpos]; rfl
    have hh256 := (hz (h : Int) (List.mem_cons_self ..)).2
    by_cases h100 : 100 < (h : Int)
    · have E : Hid (okR ((h : Int) :: zt) = none) := by show (if 100 < (h : Int) then none else _) = none; rw [if_pos h100]
      go_enter Tryz.func266, Tryz.ntmps266
      go_wp2
      go_ret2
      exact ansI_no' E.out hown0 hb0
    · have HOK : Hid (okR ((h : Int) :: zt) = rd h zt) := by show (if 100 < (h : Int) then none else rd (h : Int).toNat zt) = rd h zt; rw [if_neg h100]; simp
      obtain ⟨al, hal⟩ : ∃ al : List Int, al = (h : Int) :: zt := ⟨_, rfl⟩
      have HAL : Hid (al = (h : Int) :: zt) := hal
      have HTS : Hid (t.size = al.length) := by rw [hal]; exact hts
      have HGA : Hid (∀ p (h : p < t.size), ((t[p]'h).toNat : Int) = al.getD p 0) := by rw [hal]; exact HG.out
      have HCA : Hid (∀ a b, t.extract a b = strOfNums ((al.drop a).take (b - a))) := by rw [hal]; exact HC.out
      have HZA : Hid (∀ z ∈ al, 0 ≤ z ∧ z < 256) := by rw [hal]; exact hz
      have htn : t.size ≤ 65536 := by rw [hts]; exact hn
      have hh100 : h ≤ 100 := by omega
      obtain ⟨i0, hi, hz0, hz1, hz2⟩ := info_parts infoS9
      rw [← hal]
      have HOK : Hid (okR al = rd h zt) := by rw [hal]; exact HOK
      clear hal hts HG HC hz hn
      go_enter Tryz.func266, Tryz.ntmps266
      go_wp2
      go_loopw [4, 5, 6] (fun v x i wr => ∃ (c p : Nat) (done : List ByteArray), c ≤ h ∧ 1 ≤ p ∧ p ≤ t.size ∧ i = .int .i64 (c : Int) ∧ x = .int .i64 (p : Int) ∧ done.length + c = h ∧ Hid (onR done (rd c (al.drop p)) = rd h zt) ∧ wr.ownsRow w.heap.size 9 1 v done.length (done.map Value.string) ∧ Below w.heap.size w wr) (fun _ _ i _ => (intOf i).toNat)
      case atStart => exact ⟨h, 1, [], by omega, by omega, by omega, rfl, rfl, by simp, by rw [HAL.out]; exact onR_start _, hown0, hb0⟩
      case round =>
        obtain ⟨c, p, done, hc, hp1, hp2, rfl, rfl, hdl, HON, hown, hb⟩ := hrel
        have HDL : Hid (done.length + c = h) := hdl
        have hdl : done.length ≤ 100 := by omega
        clear hown0 hb0 h0 he hh256 h100
        by_cases hc0 : 0 < c
        · by_cases hp : t.size ≤ p
          · have E : Hid (okR al = none) := by rw [HOK.out, ← HON.out, rd_none hc0 (by rw [List.length_drop]; have := HTS.out; omega)]; rfl
            go_wp2
            go_ret2
            exact ansI_no E.out hb
          · have hpt : p < t.size := by omega
            obtain ⟨k, hk⟩ : ∃ k : Nat, (t[p]'hpt).toNat = k := ⟨_, rfl⟩
            have hk256 : k < 256 := by have := (t[p]'hpt).toNat_lt; omega
            have HK : Hid ((k : Int) = al.getD p 0) := by unfold Hid; rw [← HGA.out p hpt, hk]
            have HDR : Hid (al.drop p = (k : Int) :: al.drop (p + 1)) := by
              have hpl : p < al.length := by have := HTS.out; omega
              unfold Hid
              rw [List.drop_eq_getElem_cons hpl, HK.out, List.getD_eq_getElem?_getD, List.getElem?_eq_getElem hpl]
              rfl
            have hix : ∀ wx : World, (Instr.index 9 (.string t) (.int .i64 (p : Int))).run Tryz.prog wx = .ok (.int .u8 (k : Int)) wx := fun wx => by
              rw [run_index_string _ _ _ _ _ Tryz.underlying9, ← hk]
              simp [hpt]
            clear hp hk
            by_cases hsh : t.size < p + 1 + k
            · have E : Hid (okR al = none) := by rw [HOK.out, ← HON.out, HDR.out, rd_short hc0 (by rw [List.length_drop]; have := HTS.out; simp; omega)]; rfl
              go_wp2
              go_ret2
              exact ansI_no E.out hb
            · have HST : Hid (onR done (rd c (al.drop p)) = onR (done ++ [t.extract (p + 1) (p + 1 + k)]) (rd (c - 1) (al.drop (p + (1 + k))))) := by
                have := onR_step (done := done) (c := c - 1) (z := (k : Int)) (r := al.drop (p + 1)) (by rw [List.length_drop]; have := HTS.out; simp; omega)
                rw [show c - 1 + 1 = c by omega, ← HDR.out, List.drop_drop] at this
                rw [HCA.out, show p + 1 + k - (p + 1) = k by omega, show p + (1 + k) = p + 1 + k by omega]
                exact this
              obtain ⟨x, hx⟩ : ∃ x, x = t.extract (p + 1) (p + 1 + k) := ⟨_, rfl⟩
              have HX : Hid (x = t.extract (p + 1) (p + 1 + k)) := hx
              have hx2 : t.extract (p + 1) (p + 1 + k) = x := hx.symm
              obtain ⟨av, cv, hv⟩ := own_slice' hown
              subst hv
              have hbs : w.heap.size ≤ wr.heap.size := hb.size
              clear hx
              go_wp2_with (at_builtin; refine wpList_append_lies _ rfl (.tmp 45) (.tmp 54) 22 rfl w.heap.size 9 i0 (.string ⟨#[]⟩) 1 16 Tryz.underlying22 hi hz0 hz1 hz2 rfl (by omega) (.slice av done.length cv) done.length (done.map Value.string) rfl (hown.alloc _) ⟨wr.heap.size, 0, none⟩ 1 1 [.string x] rfl rfl (cell_one_new wr _ _) (by intro u hu; simp at hu; subst hu; rfl) (by omega) (by unfold maxLen; omega) (by omega) (by simp; omega) (wr.heap.size + 1) (by simp) ?_; intro g cp w1 hown1 hgr1 hat1 hlt1)
              have hb1 : Below w.heap.size w w1 := (hb.alloc hbs _).grown hgr1 (by simp; omega) (fun j hj => (hown.lt j hj).1)
              have hown2 : w1.ownsRow w.heap.size 9 1 (.slice (some ⟨g, 0, none⟩) (done.length + 1) cp) (done ++ [x]).length ((done ++ [x]).map Value.string) := by rw [List.map_append, List.length_append]; exact hown1
              go_roundw
              case rel => exact ⟨c - 1, p + (1 + k), done ++ [x], by omega, by omega, by omega, by go_num, by go_num, by have := HDL.out; simp; omega, by rw [HX.out, ← HST.out]; exact HON.out, hown2, hb1⟩
              case measure => simp [intOf]; omega
        · have hcz : c = 0 := by omega
          subst hcz
          by_cases hp : p = t.size
          · have E : Hid (okR al = some done) := by rw [HOK.out, ← HON.out, rd_done, if_pos (by rw [List.length_drop]; have := HTS.out; omega)]; exact onR_nil done
            have hp' : ((p : Int) != (t.size : Int)) = false := by simp [hp]
            clear hp
            go_wp2
            go_ret2
            exact ansI_yes E.out hown hb
          · have E : Hid (okR al = none) := by rw [HOK.out, ← HON.out, rd_done, if_neg (by rw [List.length_drop]; have := HTS.out; omega)]; rfl
            have hp' : ((p : Int) != (t.size : Int)) = true := by simp; omega
            clear hp
            go_wp2
            go_ret2
            exact ansI_no E.out hb

end Go.Proofs.YtfibdpfhfgnbiaaGreatDoor
namespace Go.Proofs.YtfibdpfhfgnbiaaGreatDoor.G
open Go Go.RowKit
attribute [local go_sem ↓] Go.wp_at_zero Go.wp_at_succ

def newG : DG := ⟨0, [⟨#[]⟩, ⟨#[]⟩, ⟨#[]⟩, ⟨#[]⟩]⟩
theorem new_fit : FitG newG := ⟨by simp [newG], fun s h => by simp [newG] at h; subst h; simp [ByteArray.size]⟩
theorem own_new {w1 : World} {B : Nat} {c : Nat} (h : w1.ownsRow B 9 1 (.slice (some ⟨B, 0, none⟩) 4 c) 4 (madeCells (Value.string ⟨#[]⟩).cells (4 * 1)).toList) : OwnG w1 B w1.heap.size ⟨0, some ⟨B, 0, none⟩, 4, c⟩ newG := by
  refine ⟨rfl, ?_, Nat.le_refl _, fun g e => h.lt g (by rw [ob_slice]; exact e)⟩
  have e : (madeCells (Value.string ⟨#[]⟩).cells (4 * 1)).toList = newG.S.map Value.string := by rw [show (Value.string ⟨#[]⟩).cells = #[Value.string ⟨#[]⟩] from rfl, toList_madeCells_one]; rfl
  rw [← e]
  exact h

set_option maxRecDepth 100000 in
set_option maxHeartbeats 2000000 in
theorem c_specNew (w : World) : Calls Tryz.prog 202 #[] w fun e w' => (∃ h' : HG, e = .returned (.agg #[.int .i64 h'.l, .slice h'.a h'.n h'.c]) ∧ OwnG w' w.heap.size w'.heap.size h' newG) ∧ Below w.heap.size w w' := by
  obtain ⟨i0, hi, hz0, hz1, hz2⟩ := info_parts infoS
  obtain ⟨V, hV⟩ : ∃ V, w.alloc (.cells #[.int .i64 0, .slice none 0 0] 140) = V := ⟨_, rfl⟩
  have HB : Hid (Below w.heap.size w V) := by unfold Hid; rw [← hV]; exact (Below.refl _ _).alloc (Nat.le_refl _) _
  have BR : Hid (Box V w.heap.size 140 #[.int .i64 0, .slice none 0 0]) := by unfold Hid; rw [← hV]; exact Box.new _ _ _
  have l0 := BR.out.lt
  go_enter Tryz.func202, Tryz.ntmps202
  go_wp2_with (at_make; refine wpList_make_full _ rfl (.const (.int .i64 4)) (.const (.int .i64 4)) 22 rfl V.heap.size 9 i0 (Value.string ⟨#[]⟩) 1 Tryz.underlying22 hi hz0 hz1 .i64 .i64 _ _ 4 rfl rfl rfl rfl (by rw [hz2]; omega) (by unfold maxLen; omega) (Nat.le_refl _) ?_; intro w1 hown hgrow; have hb : Below V.heap.size V w1 := (Below.refl _ _).grown hgrow (Nat.le_refl _) (fun k h => by cases h); have O1 : Hid (OwnG w1 V.heap.size w1.heap.size ⟨0, some ⟨V.heap.size, 0, none⟩, 4, 4⟩ newG) := own_new hown; have B1 : Hid (Below w.heap.size w w1) := HB.out.trans (hb.mono HB.out.size); have BR1 : Hid (Box w1 w.heap.size 140 #[.int .i64 0, .slice none 0 0]) := BR.out.belowS hb; obtain ⟨u0, u1⟩ := box2 BR1.out; have t0 := BR1.out.thaw 0; have t1 := BR1.out.thaw 1; clear hown hgrow hb HB BR hV)
  refine retG1 Tryz.results202 rfl rfl (put2_box BR1.out _ _) ⟨⟨⟨0, some ⟨V.heap.size, 0, none⟩, 4, 4⟩, rfl, ?_⟩, put2_below B1.out (Nat.le_refl _) _ _⟩
  have := O1.out.put2 (r := w.heap.size) (.inl (by omega)) (.int .i64 0) (.slice (some ⟨V.heap.size, 0, none⟩) 4 4)
  exact this.wide (B' := w.heap.size) (by omega)

set_option maxRecDepth 100000 in
set_option maxHeartbeats 2000000 in
theorem c_implNew (w : World) : Calls Tryz.prog 270 #[] w fun e w' => (∃ h' : HG, e = .returned (.agg #[.int .i64 h'.l, .slice h'.a h'.n h'.c]) ∧ OwnG w' w.heap.size w'.heap.size h' newG) ∧ Below w.heap.size w w' := by
  obtain ⟨i0, hi, hz0, hz1, hz2⟩ := info_parts infoS
  obtain ⟨V, hV⟩ : ∃ V, w.alloc (.cells #[.int .i64 0, .slice none 0 0] 140) = V := ⟨_, rfl⟩
  have HB : Hid (Below w.heap.size w V) := by unfold Hid; rw [← hV]; exact (Below.refl _ _).alloc (Nat.le_refl _) _
  have BR : Hid (Box V w.heap.size 140 #[.int .i64 0, .slice none 0 0]) := by unfold Hid; rw [← hV]; exact Box.new _ _ _
  have l0 := BR.out.lt
  go_enter Tryz.func270, Tryz.ntmps270
  go_wp2_with (at_make; refine wpList_make_full _ rfl (.const (.int .i64 4)) (.const (.int .i64 4)) 22 rfl V.heap.size 9 i0 (Value.string ⟨#[]⟩) 1 Tryz.underlying22 hi hz0 hz1 .i64 .i64 _ _ 4 rfl rfl rfl rfl (by rw [hz2]; omega) (by unfold maxLen; omega) (Nat.le_refl _) ?_; intro w1 hown hgrow; have hb : Below V.heap.size V w1 := (Below.refl _ _).grown hgrow (Nat.le_refl _) (fun k h => by cases h); have O1 : Hid (OwnG w1 V.heap.size w1.heap.size ⟨0, some ⟨V.heap.size, 0, none⟩, 4, 4⟩ newG) := own_new hown; have B1 : Hid (Below w.heap.size w w1) := HB.out.trans (hb.mono HB.out.size); have BR1 : Hid (Box w1 w.heap.size 140 #[.int .i64 0, .slice none 0 0]) := BR.out.belowS hb; obtain ⟨u0, u1⟩ := box2 BR1.out; have t0 := BR1.out.thaw 0; have t1 := BR1.out.thaw 1; clear hown hgrow hb HB BR hV)
  refine retG1 Tryz.results270 rfl rfl (put2_box BR1.out _ _) ⟨⟨⟨0, some ⟨V.heap.size, 0, none⟩, 4, 4⟩, rfl, ?_⟩, put2_below B1.out (Nat.le_refl _) _ _⟩
  have := O1.out.put2 (r := w.heap.size) (.inl (by omega)) (.int .i64 0) (.slice (some ⟨V.heap.size, 0, none⟩) 4 4)
  exact this.wide (B' := w.heap.size) (by omega)

end Go.Proofs.YtfibdpfhfgnbiaaGreatDoor.G
namespace Go.Proofs.YtfibdpfhfgnbiaaGreatDoor
open Go Go.RowKit
attribute [local go_sem ↓] Go.wp_at_zero Go.wp_at_succ


set_option maxRecDepth 100000 in
set_option maxHeartbeats 2000000 in
theorem c_seal (b off n cap : Nat) (zs : List Int) (w : World) (hr : RdV w (some ⟨b, off, none⟩) n (zs.map (Value.int .u8))) (hz : ∀ z ∈ zs, 0 ≤ z ∧ z < 256) (hn : n ≤ 65536) (hcap : n ≤ cap) (ht : TabH w) (C : Int) (hC : C = (Crc.crc zs : Nat)) :
    Calls Tryz.prog 298 #[.slice (some ⟨b, off, none⟩) n cap] w fun e w' => (∃ a' c', e = .returned (.slice a' (n + 4) c') ∧ w'.ownsRow w.heap.size 5 1 (.slice a' (n + 4) c') (n + 4) ((zs ++ sumZ C).map (Value.int .u8))) ∧ Below w.heap.size w w' := by
  obtain ⟨i0, g9, g90, g91, g92⟩ := info_parts infoB
  have hi : Hid (Tryz.prog.info? 5 = some i0) := g9
  have hz0 : Hid (i0.zero = some (.int .u8 0)) := g90
  have hz1 : Hid (i0.size = 1) := g91
  have hz2 : Hid (i0.bytes = 1) := g92
  clear g9 g90 g91 g92
  have HR : Hid (RdV w (some ⟨b, off, none⟩) n (zs.map (Value.int .u8))) := hr
  have CK : Hid (Calls Tryz.prog 303 #[.slice (some ⟨b, off, none⟩) n cap] w fun e w' => e = .returned (.agg #[.int .u8 (C / 16777216), .int .u8 (C / 65536 % 256), .int .u8 (C / 256 % 256), .int .u8 (C % 256)]) ∧ Below w.heap.size w w') := c_sumOf _ n cap zs w hr hz hn ht C hC
  have hl : Hid (zs.length = n) := by unfold Hid; simpa using hr.1
  clear hr hz ht hC
  go_enter Tryz.func298, Tryz.ntmps298
  go_wp2_with fail
  refine CK.out.mono ?_
  rintro e w1 ⟨rfl, hb⟩
  have B1 : Hid (Below w.heap.size w w1) := hb
  clear hb CK
  obtain ⟨V, hV⟩ : ∃ V, w1.alloc (.cells #[.int .u8 (C / 16777216), .int .u8 (C / 65536 % 256), .int .u8 (C / 256 % 256), .int .u8 (C % 256)] 360) = V := ⟨_, rfl⟩
  have hbv : Below w1.heap.size w1 V := by rw [← hV]; exact (Below.refl _ _).alloc (Nat.le_refl _) _
  have BV : Hid (Below w.heap.size w V) := B1.out.trans (hbv.mono B1.out.size)
  have BX : Hid (Box V w1.heap.size 360 #[.int .u8 (C / 16777216), .int .u8 (C / 65536 % 256), .int .u8 (C / 256 % 256), .int .u8 (C % 256)]) := by unfold Hid; rw [← hV]; exact Box.new _ _ _
  have HRV : Hid (RdV V (some ⟨b, off, none⟩) n (zs.map (Value.int .u8))) := HR.out.below BV.out
  clear hbv HR B1
  go_wp2_with fail
  go_region_law (refine step_append_grows rfl (.tmp 11) (.tmp 12) 237 rfl 5 i0 (.int .u8 0) 1 1 Tryz.underlying237 hi.out hz0.out hz1.out hz2.out rfl (by omega) (some ⟨b, off, none⟩) n n (zs.map (Value.int .u8)) rfl (fun h => by cases h) (by have := hl.out; simp; omega) (fun ad e => by cases e; exact src1 HRV.out) ⟨w1.heap.size, 0, none⟩ 4 4 ((sumZ C).map (Value.int .u8)) rfl rfl (by rw [sumZ_map]; exact box_src BX.out) (by intro u hu; obtain ⟨x, _, rfl⟩ := List.mem_map.1 hu; rfl) (by omega) (by unfold maxLen; omega) (by omega) ?_; intro v' w' hown hgrow; obtain ⟨a', c', hv, _⟩ := own_slc hown; subst hv; have HO : Hid (w'.ownsRow w.heap.size 5 1 (.slice a' (n + 4) c') (n + 4) ((zs ++ sumZ C).map (Value.int .u8))) := (by unfold Hid; rw [List.map_append]; exact hown.down BV.out.size); have HBE : Hid (Below w.heap.size w w') := (by first | exact (below_drewN BV.out _).grown hgrow BV.out.size (fun k h => by cases h) | exact BV.out.drew.grown hgrow BV.out.size (fun k h => by cases h) | exact BV.out.grown hgrow BV.out.size (fun k h => by cases h)); clear hown hgrow)
  all_goals
    clear hV BX HRV BV
    go_wp2
    go_ret
    exact ⟨⟨a', c', rfl, HO.out⟩, HBE.out⟩

end Go.Proofs.YtfibdpfhfgnbiaaGreatDoor
