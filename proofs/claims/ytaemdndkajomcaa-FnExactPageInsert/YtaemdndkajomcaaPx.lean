/-
  Pages that are set: the walks of PageSet, the program's and the specification's.
-/
import Derived.Test.YtaemdndkajomcaaPw
namespace Go.Proofs.Ytaemdndkajomcaa
open Go Go.RowKit
attribute [local go_sem ↓] Go.wp_at_zero Go.wp_at_succ


def setOK (sl : Int) (d : ByteArray) (l : Int) : Bool := inB sl 0 3 && !(longB d) && inB l 0 1000
def setC (D : DG) (sl : Int) (d : ByteArray) (l : Int) : Int := if 65536 < d.size then 2 else if okG D then (if setOK sl d l then 0 else 4) else 1
def setR (D : DG) (sl : Int) (d : ByteArray) (l : Int) : DG := if 65536 < d.size then ⟨0, []⟩ else if okG D then (if setOK sl d l then ⟨l, D.S.set sl.toNat d⟩ else ⟨0, []⟩) else ⟨0, []⟩
theorem set2 {D : DG} {sl : Int} {d : ByteArray} {l : Int} (h : 65536 < d.size) : setC D sl d l = 2 ∧ setR D sl d l = ⟨0, []⟩ := by unfold setC setR; rw [if_pos h, if_pos h]; exact ⟨rfl, rfl⟩
theorem set1 {D : DG} {sl : Int} {d : ByteArray} {l : Int} (h : ¬ 65536 < d.size) (h1 : okG D = false) : setC D sl d l = 1 ∧ setR D sl d l = ⟨0, []⟩ := by unfold setC setR; rw [if_neg h, if_neg h, h1]; exact ⟨rfl, rfl⟩
theorem set4 {D : DG} {sl : Int} {d : ByteArray} {l : Int} (h : ¬ 65536 < d.size) (h1 : okG D = true) (h2 : setOK sl d l = false) : setC D sl d l = 4 ∧ setR D sl d l = ⟨0, []⟩ := by unfold setC setR; rw [if_neg h, if_neg h, h1, h2]; exact ⟨rfl, rfl⟩
theorem set0 {D : DG} {sl : Int} {d : ByteArray} {l : Int} (h : ¬ 65536 < d.size) (h1 : okG D = true) (h2 : setOK sl d l = true) : setC D sl d l = 0 ∧ setR D sl d l = ⟨l, D.S.set sl.toNat d⟩ := by unfold setC setR; rw [if_neg h, if_neg h, h1, h2]; exact ⟨rfl, rfl⟩
theorem fit_zero : FitG ⟨0, []⟩ := ⟨by simp, fun s h => by cases h⟩
theorem fit_set {D : DG} (hf : FitG D) {d : ByteArray} (hd : d.size ≤ 1048576) (l : Int) (k : Nat) : FitG ⟨l, D.S.set k d⟩ := by
  refine ⟨by simpa using hf.1, fun s h => ?_⟩
  rcases List.mem_or_eq_of_mem_set h with h | rfl
  · exact hf.2 s h
  · exact hd
theorem set_fit {D : DG} {sl : Int} {d : ByteArray} {l : Int} (hf : FitG D) (hd : d.size ≤ 1048576) : FitG (setR D sl d l) := by
  unfold setR
  repeat' split
  all_goals first | exact fit_zero | exact fit_set hf hd _ _

/-- A page of the call's own, with a record put into it. -/
theorem OwnG.put {V : World} {B E : Nat} {l : Int} {g n c : Nat} {D : DG} (o : OwnG V B E ⟨l, some ⟨g, 0, none⟩, n, c⟩ D) (k : Nat) (d : ByteArray) : OwnG (V.setCell ⟨g, k, none⟩ (.string d)) B E ⟨l, some ⟨g, 0, none⟩, n, c⟩ ⟨D.L, D.S.set k d⟩ := by
  obtain ⟨h1, h2, h3, h4⟩ := o
  have := (h2.stored k (.string d)).1
  refine ⟨h1, ?_, by simpa using h3, h4⟩
  show World.ownsRow _ B 9 1 _ n ((D.S.set k d).map Value.string)
  rw [List.map_set]
  exact this
theorem OwnG.lsn {V : World} {B E : Nat} {l : Int} {a : Option Addr} {n c : Nat} {D : DG} (o : OwnG V B E ⟨l, a, n, c⟩ D) (l' : Int) : OwnG V B E ⟨l', a, n, c⟩ ⟨l', D.S⟩ := ⟨rfl, o.2.1, o.2.2.1, o.2.2.2⟩
theorem OwnG.setO {V : World} {B E : Nat} {h : HG} {D : DG} (o : OwnG V B E h D) {r i : Nat} (hr : r < B ∨ E ≤ r) (v : Value) : OwnG (V.setCell ⟨r, i, none⟩ v) B E h D :=
  o.same (by simp) fun g h1 h2 => Below.heap_setCell _ _ _ _ (by simp; omega)
theorem OwnG.some_of {V : World} {B E : Nat} {h : HG} {D : DG} (o : OwnG V B E h D) (hn : 0 < D.S.length) : ∃ g c, h = ⟨D.L, some ⟨g, 0, none⟩, D.S.length, c⟩ ∧ B ≤ g ∧ g < E := by
  have hl := o.rd.len
  obtain ⟨l, a, n, c⟩ := h
  obtain ⟨h1, h2, h3, h4⟩ := o
  simp only at *
  subst h1 hl
  rcases own_form h2 with ⟨hv, h0⟩ | ⟨g, cap, hv, _, _⟩
  · omega
  · cases hv
    exact ⟨g, _, rfl, h4 g rfl⟩

set_option maxRecDepth 100000 in
set_option maxHeartbeats 4000000 in
theorem c_set (h : HG) (D : DG) (k : Nat) (d : ByteArray) (x : Int) (w : World) (r : RdG w h D) (hk : SrcG h) (hf : FitG D) (h4 : D.S.length = 4) (hk4 : k < 4) :
    Calls Try.prog 72 #[.agg #[.int .i64 h.l, .slice h.a h.n h.c], .int .i64 k, .string d, .int .i64 x] w fun e w' => (∃ h' : HG, e = .returned (.agg #[.int .i64 h'.l, .slice h'.a h'.n h'.c]) ∧ OwnG w' w.heap.size w'.heap.size h' ⟨x, D.S.set k d⟩) ∧ Below w.heap.size w w' := by
  have CO : Hid (∀ (W : World), RdG W h D → Calls Try.prog 69 #[.agg #[.int .i64 h.l, .slice h.a h.n h.c]] W fun e w' => (∃ h' : HG, e = .returned (.agg #[.int .i64 h'.l, .slice h'.a h'.n h'.c]) ∧ OwnG w' W.heap.size w'.heap.size h' D) ∧ Below W.heap.size W w') := fun W hW => c_own h D W hW hk hf
  have RR : Hid (RdG w h D) := r
  have H4 : Hid (D.S.length = 4) := h4
  clear hk h4
  have k0 := r.len
  clear hf
  obtain ⟨rl, r0⟩ := r
  obtain ⟨l, a, n, c⟩ := h
  simp only at *
  subst k0 rl
  clear r0
  obtain ⟨V, hV⟩ : ∃ V, (w.alloc (.cells #[.int .i64 D.L, .slice a D.S.length c] 45)).alloc (.cells #[.int .i64 0, .slice none 0 0] 45) = V := ⟨_, rfl⟩
  have HB : Hid (Below w.heap.size w V) := by unfold Hid; rw [← hV]; exact ((Below.refl _ _).alloc (Nat.le_refl _) _).alloc (by simp) _
  have BX : Hid (Box V w.heap.size 45 #[.int .i64 D.L, .slice a D.S.length c]) := by unfold Hid; rw [← hV]; exact (Box.new _ _ _).alloc _
  have BR : Hid (Box V (w.heap.size + 1) 45 #[.int .i64 0, .slice none 0 0]) := by unfold Hid; rw [← hV]; exact Box.new2 _ _ _ _
  have SZ : Hid (V.heap.size = w.heap.size + 1 + 1) := by unfold Hid; rw [← hV]; simp
  obtain ⟨v0, v1⟩ := box2 BX.out
  obtain ⟨u0, u1⟩ := box2 BR.out
  have t0 := BR.out.thaw 0
  have t1 := BR.out.thaw 1
  have l0 := BX.out.lt
  have l1 := BR.out.lt
  go_enter Try.func72, Try.ntmps72
  go_wp2_with fail
  refine (CO.out V (RR.out.below HB.out)).mono ?_
  rintro e w1 ⟨⟨h1, rfl, o1⟩, hb⟩
  obtain ⟨g, c1, rfl, hg1, hg2⟩ := o1.some_of (by have := H4.out; omega)
  have B1 : Hid (Below w.heap.size w w1) := HB.out.trans (hb.mono HB.out.size)
  have BR1 : Hid (Box w1 (w.heap.size + 1) 45 #[.int .i64 0, .slice none 0 0]) := BR.out.belowS hb
  have q01 : w.heap.size + 1 + 1 ≤ V.heap.size := by have := SZ.out; omega
  have q12 : V.heap.size ≤ w1.heap.size := hb.size
  have O1 : Hid (OwnG w1 V.heap.size w1.heap.size ⟨D.L, some ⟨g, 0, none⟩, D.S.length, c1⟩ D) := o1
  clear hb o1 HB BX BR SZ v0 v1 u0 u1 t0 t1 hV l0 l1 CO RR
  obtain ⟨V2, hV2⟩ : ∃ W, w1.alloc (.cells #[.int .i64 D.L, .slice (some ⟨g, 0, none⟩) D.S.length c1] 45) = W := ⟨_, rfl⟩
  have hb2 : Below w1.heap.size w1 V2 := by rw [← hV2]; exact (Below.refl _ _).alloc (Nat.le_refl _) _
  have B2 : Hid (Below w.heap.size w V2) := B1.out.trans (hb2.mono B1.out.size)
  have BR2 : Hid (Box V2 (w.heap.size + 1) 45 #[.int .i64 0, .slice none 0 0]) := BR1.out.belowS hb2
  have BO2 : Hid (Box V2 w1.heap.size 45 #[.int .i64 D.L, .slice (some ⟨g, 0, none⟩) D.S.length c1]) := by unfold Hid; rw [← hV2]; exact Box.new _ _ _
  have O2 : Hid (OwnG V2 V.heap.size w1.heap.size ⟨D.L, some ⟨g, 0, none⟩, D.S.length, c1⟩ D) := O1.out.below hb2
  clear hb2 B1 BR1 O1
  obtain ⟨V3, hV3⟩ : ∃ W, V2.setCell ⟨g, k, none⟩ (.string d) = W := ⟨_, rfl⟩
  have B3 : Hid (Below w.heap.size w V3) := by unfold Hid; rw [← hV3]; exact B2.out.setCell (by simp; omega) _
  have BR3 : Hid (Box V3 (w.heap.size + 1) 45 #[.int .i64 0, .slice none 0 0]) := by unfold Hid; rw [← hV3]; exact BR2.out.setOther _ _ (by simp; omega)
  have BO3 : Hid (Box V3 w1.heap.size 45 #[.int .i64 D.L, .slice (some ⟨g, 0, none⟩) D.S.length c1]) := by unfold Hid; rw [← hV3]; exact BO2.out.setOther _ _ (by simp; omega)
  have O3 : Hid (OwnG V3 V.heap.size w1.heap.size ⟨D.L, some ⟨g, 0, none⟩, D.S.length, c1⟩ ⟨D.L, D.S.set k d⟩) := by unfold Hid; rw [← hV3]; exact O2.out.put k d
  obtain ⟨V4, hV4⟩ : ∃ W, V3.setCell ⟨w1.heap.size, 0, none⟩ (.int .i64 x) = W := ⟨_, rfl⟩
  have B4 : Hid (Below w.heap.size w V4) := by unfold Hid; rw [← hV4]; exact B3.out.setCell (by simp; omega) _
  have BR4 : Hid (Box V4 (w.heap.size + 1) 45 #[.int .i64 0, .slice none 0 0]) := by unfold Hid; rw [← hV4]; exact BR3.out.setOther _ _ (by simp; omega)
  have BO4 : Hid (Box V4 w1.heap.size 45 #[.int .i64 x, .slice (some ⟨g, 0, none⟩) D.S.length c1]) := by unfold Hid; rw [← hV4]; have := BO3.out.set 0 (.int .i64 x); simpa using this
  have O4 : Hid (OwnG V4 V.heap.size w1.heap.size ⟨x, some ⟨g, 0, none⟩, D.S.length, c1⟩ ⟨x, D.S.set k d⟩) := by unfold Hid; rw [← hV4]; exact (O3.out.lsn x).setO (.inr (Nat.le_refl _)) _
  obtain ⟨y0, y1⟩ := box2 BO2.out
  obtain ⟨old, hold⟩ : ∃ old, V2.cell? ⟨g, k, none⟩ = some old := by
    rw [O2.out.2.1.cellAt k (by have := H4.out; simp; omega)]
    exact ⟨_, List.getElem?_eq_getElem (by have := O2.out.2.1.1; have := H4.out; simp at *; omega)⟩
  have hfz := O2.out.2.1.frozenAt k
  obtain ⟨z0, z1⟩ := box2 BO3.out
  have hfz2 := BO3.out.thaw 0
  obtain ⟨x0, x1⟩ := box2 BO4.out
  obtain ⟨u0, u1⟩ := box2 BR4.out
  have t0 := BR4.out.thaw 0
  have t1 := BR4.out.thaw 1
  have g2 : (k : Int) < (D.S.length : Int) := by have := H4.out; omega
  clear B2 BR2 BO2 O2 B3 BR3 BO3 O3 H4
  go_wp2
  refine retG1 Try.results72 rfl rfl (put2_box BR4.out _ _) ⟨⟨⟨x, some ⟨g, 0, none⟩, D.S.length, c1⟩, rfl, ?_⟩, put2_below B4.out (by omega) _ _⟩
  have := O4.out.put2 (r := w.heap.size + 1) (.inl (by omega)) (.int .i64 x) (.slice (some ⟨g, 0, none⟩) D.S.length c1)
  exact this.wide (B' := w.heap.size) (by omega)

end Go.Proofs.Ytaemdndkajomcaa
