/-
  A write more: the specification's.
-/
import Derived.Test.YtefbaemcdfmhpaaWc
import Derived.Test.YtefbaemcdfmhpaaCd
namespace Go.Proofs.Ytefbaemcdfmhpaa
open Go Go.RowKit
attribute [local go_sem ↓] Go.wp_at_zero Go.wp_at_succ

def wrD (D : DD) (x : Int) (s : ByteArray) : DD := ⟨D.S, D.C ++ [(x, s)], D.A, D.K⟩
def wrBad (D : DD) (x : Int) (s : ByteArray) : Bool := !decide (0 ≤ x ∧ x < D.S.length) || decide (160 < s.size)
def wrR (D : DD) (x : Int) (s : ByteArray) : DD := if 65536 < s.size then eD else if okD D = true then (if wrBad D x s = true then eD else if D.C.length = 500 then D else wrD D x s) else eD
def wrC (D : DD) (x : Int) (s : ByteArray) : Int := if 65536 < s.size then 2 else if okD D = true then (if wrBad D x s = true then 4 else if D.C.length = 500 then 7 else 0) else 1
theorem ok_len {D : DD} (h : okD D = true) : 1 ≤ D.S.length ∧ D.S.length ≤ 100 ∧ D.C.length ≤ 500 ∧ D.K.length ≤ 500 := by
  unfold okD at h
  simp only [Bool.and_eq_true, decide_eq_true_eq] at h
  exact h.1
theorem fit_wrD {D : DD} {x : Int} {s : ByteArray} (hf : Fit D) (hs : s.size ≤ 1048576) (hl : D.C.length ≤ 500) : Fit (wrD D x s) := by
  obtain ⟨f0, f1, f2, f3, f4⟩ := hf
  refine ⟨f0, by show (D.C ++ [(x, s)]).length ≤ _; rw [List.length_append]; simp; omega, f2, f3, fun p hp => ?_⟩
  rcases List.mem_append.1 hp with h | h
  · exact f4 p h
  · simp at h; subst h; exact hs
theorem wr_fit {D : DD} {x : Int} {s : ByteArray} (hf : Fit D) (hs : s.size ≤ 1048576) : Fit (wrR D x s) := by
  unfold wrR
  split
  · exact fit_eD
  · split
    · rename_i hok
      split
      · exact fit_eD
      · split
        · exact hf
        · exact fit_wrD hf hs (ok_len hok).2.2.1
    · exact fit_eD
theorem c_in2 (n lo hi : Int) (w : World) : Calls Try.prog 46 #[.int .i64 n, .int .i64 lo, .int .i64 hi] w fun e w' => e = .returned (.bool (inB n lo hi)) ∧ w = w' := (c_in n lo hi w).mono fun _ _ h => ⟨h.1, h.2.symm⟩
theorem cell_two1 (w : World) (x y : Value) (t : TypeId) : ∀ j u, [x, y][j]? = some u → (w.alloc (.cells #[x, y] t)).cell? ((⟨w.heap.size, 0, none⟩ : Addr).add j) = some u := by
  intro j u hj
  have hb := Box.new w #[x, y] t
  rw [addr_add, Nat.zero_add, hb.cell j]
  rw [← hj]
  simp

set_option maxHeartbeats 4000000 in
theorem c_l02Write (h : HD) (D : DD) (x : Int) (s : ByteArray) (w : World) (hf : Fit D) (r : RdD w h D) (hk : HOK h) :
    Calls Try.prog 48 #[.agg #[.slice h.a0 h.n0 h.c0, .slice h.a1 h.n1 h.c1, .bool h.b, .slice h.a2 h.n2 h.c2], .int .i64 x, .string s] w fun e w' => (∃ h' : HD, e = .returned (.agg #[.slice h'.a0 h'.n0 h'.c0, .slice h'.a1 h'.n1 h'.c1, .bool h'.b, .slice h'.a2 h'.n2 h'.c2]) ∧ RdD w' h' (wrD D x s) ∧ HOK h' ∧ h'.a0 = h.a0 ∧ h'.a2 = h.a2 ∧ ∀ b, ob h'.a1 = some b → w.heap.size ≤ b) ∧ Below w.heap.size w w' := by
  have k1 := r.l1
  have f1 := hf.2.1
  obtain ⟨i42, hi42, hz420, hz421, hz422⟩ := info_parts info42
  have R : Hid (RdD w h D) := r
  have HK : Hid (HOK h) := hk
  have NK : Hid (h.a1 = none → h.n1 = 0 ∧ h.c1 = 0) := rdP_none r.2.2.1 hk.2.1
  have HB : Hid (Below w.heap.size w ((w.alloc (.cells #[.slice h.a0 h.n0 h.c0, .slice h.a1 h.n1 h.c1, .bool h.b, .slice h.a2 h.n2 h.c2] 27)).alloc (.cells #[.slice none 0 0, .slice none 0 0, .bool false, .slice none 0 0] 27))) := ((Below.refl _ _).alloc (Nat.le_refl _) _).alloc (by simp) _
  have BX : Hid (Box ((w.alloc (.cells #[.slice h.a0 h.n0 h.c0, .slice h.a1 h.n1 h.c1, .bool h.b, .slice h.a2 h.n2 h.c2] 27)).alloc (.cells #[.slice none 0 0, .slice none 0 0, .bool false, .slice none 0 0] 27)) w.heap.size 27 #[.slice h.a0 h.n0 h.c0, .slice h.a1 h.n1 h.c1, .bool h.b, .slice h.a2 h.n2 h.c2]) := (Box.new _ _ _).alloc _
  have BR : Hid (Box ((w.alloc (.cells #[.slice h.a0 h.n0 h.c0, .slice h.a1 h.n1 h.c1, .bool h.b, .slice h.a2 h.n2 h.c2] 27)).alloc (.cells #[.slice none 0 0, .slice none 0 0, .bool false, .slice none 0 0] 27)) (w.heap.size + 1) 27 #[.slice none 0 0, .slice none 0 0, .bool false, .slice none 0 0]) := Box.new2 _ _ _ _
  clear r hk hf
  obtain ⟨V, hV⟩ : ∃ V, ((w.alloc (.cells #[.slice h.a0 h.n0 h.c0, .slice h.a1 h.n1 h.c1, .bool h.b, .slice h.a2 h.n2 h.c2] 27)).alloc (.cells #[.slice none 0 0, .slice none 0 0, .bool false, .slice none 0 0] 27)) = V := ⟨_, rfl⟩
  rw [hV] at HB BX BR
  have l1 := BR.out.lt
  have l0 := BX.out.lt
  obtain ⟨v0, v1, v2, v3⟩ := box4 BX.out
  go_enter Try.func48, Try.ntmps48
  go_wp2_with (first
    | (at_builtin; refine app_any _ rfl (.tmp 7) (.tmp 9) 24 rfl w.heap.size 42 i42 (.agg #[.int .i64 0, .string ⟨#[]⟩]) 2 24 Try.underlying24 hi42 hz420 hz421 hz422 rfl (by omega) (.slice (some ⟨V.heap.size, 0, none⟩) 0 0) 0 [] rfl (World.ownsRow_lit V #[] 0 HB.out.size (Nat.zero_le _) rfl) h.a1 h.n1 h.c1 (cellsP D.C) rfl NK.out (by rw [cellsP_len, k1]) (fun ad e => srcP (e ▸ (R.out.2.2.1.below (HB.out.alloc HB.out.size _)))) (cellsP_one _) (by unfold maxLen; omega) (by omega) (by have := HB.out.size; simp; omega) ?_
       intro a1 c1 w3 ho hg0 hkk
       have hg : (V.alloc (.cells #[] 42)).grownBy w3 (some V.heap.size) := hg0
       clear hg0
       rw [Nat.zero_add, List.nil_append] at ho
       have hge : Hid (∀ g, ob a1 = some g → V.heap.size ≤ g) := fun g e => by rcases hkk g e with h | h; exact Nat.le_of_eq (Option.some.inj h); rw [h]; simp
       obtain ⟨_, _, _, _, _, _, _, _, l3, _⟩ := stage 7 (.int .i64 0) BX.out BR.out HB.out hg
       have HX3 : Hid (Box w3 w.heap.size 27 #[.slice h.a0 h.n0 h.c0, .slice h.a1 h.n1 h.c1, .bool h.b, .slice h.a2 h.n2 h.c2]) := (BX.out.alloc (.cells #[] 42)).grown hg (by simp; omega)
       have HY3 : Hid (Box w3 (w.heap.size + 1) 27 #[.slice none 0 0, .slice none 0 0, .bool false, .slice none 0 0]) := (BR.out.alloc (.cells #[] 42)).grown hg (by simp; omega)
       have HB3 : Hid (Below w.heap.size w w3) := (HB.out.alloc HB.out.size (.cells #[] 42)).grown hg (by have := HB.out.size; simp; omega) (fun k h => by cases h; exact HB.out.size)
       have HO3 : Hid (w3.ownsRow w.heap.size 42 2 (.slice a1 h.n1 c1) h.n1 (cellsP D.C)) := ho
       clear ho hg hkk v0 v1 v2 v3)
    | (at_builtin; refine app_any _ rfl (.tmp 10) (.tmp 14) 24 rfl w.heap.size 42 i42 (.agg #[.int .i64 0, .string ⟨#[]⟩]) 2 24 Try.underlying24 hi42 hz420 hz421 hz422 rfl (by omega) (.slice a1 h.n1 c1) h.n1 (cellsP D.C) rfl (HO3.out.alloc _) (some ⟨w3.heap.size, 0, none⟩) 1 1 [.int .i64 x, .string s] rfl (fun h => by cases h) rfl (fun ad e => by cases e; exact cell_two1 _ _ _ _) (by intro u hu; simp at hu; rcases hu with rfl | rfl <;> rfl) (by unfold maxLen; omega) (by omega) (by have := HB3.out.size; simp; omega) ?_
       intro a2 c2 w4 ho hg hkk
       have hlw : ∀ g, (Value.slice a1 h.n1 c1).ownBlock = some g → V.heap.size ≤ g := fun g e => by rw [ob_slice] at e; exact hge.out g e
       have x4 := (HX3.out.alloc (.cells #[.int .i64 x, .string s] 42)).grown hg (fun e => by have := hlw _ e; omega)
       have y4 := (HY3.out.alloc (.cells #[.int .i64 x, .string s] 42)).grown hg (fun e => by have := hlw _ e; omega)
       have B4 : Below w.heap.size w w4 := (HB3.out.alloc HB3.out.size (.cells #[.int .i64 x, .string s] 42)).grown hg (by have := HB3.out.size; simp; omega) (fun k e => by have := hlw k e; omega)
       have hge2 : ∀ g, ob a2 = some g → V.heap.size ≤ g := fun g e => by
         rcases hkk g e with h | h
         · exact hlw g h
         · rw [h]; simp; omega
       obtain ⟨W, hW⟩ : ∃ W, w4.setCell ⟨w.heap.size, 1, none⟩ (.slice a2 (h.n1 + 1) c2) = W := ⟨_, rfl⟩
       have x5 := x4.set 1 (.slice a2 (h.n1 + 1) c2)
       have y5 := y4.setOther ⟨w.heap.size, 1, none⟩ (.slice a2 (h.n1 + 1) c2) (show w.heap.size + 1 ≠ w.heap.size by omega)
       have K5 : ∀ g, g ≠ w.heap.size → W.heap[g]? = w4.heap[g]? := fun g hg => by rw [← hW, Below.heap_setCell _ _ _ _ hg]
       have B5 : Below w.heap.size w W := by rw [← hW]; exact B4.setCell (Nat.le_refl _) _
       rw [hW] at x5 y5
       simp at x5
       have HO5 : Hid (W.ownsRow w.heap.size 42 2 (.slice a2 (h.n1 + 1) c2) (h.n1 + 1) (cellsP (D.C ++ [(x, s)]))) := by rw [cellsP_append]; exact own_same ho fun g e => K5 g (by rw [ob_slice] at e; have := hge2 g e; omega)
       have HG5 : Hid (∀ g, ob a2 = some g → V.heap.size ≤ g) := hge2
       have HB5 : Hid (Below w.heap.size w W) := B5
       have HY5 : Hid (Box W (w.heap.size + 1) 27 #[.slice none 0 0, .slice none 0 0, .bool false, .slice none 0 0]) := y5
       have s1 := x4.cell 1
       have s2 := x4.thaw 1
       simp at s1
       obtain ⟨v0, v1, v2, v3⟩ := box4 x5
       obtain ⟨y0, yy1, y2, yy3⟩ := box4 y5
       have z0 := y5.thaw 0
       have z1 := y5.thaw 1
       have z2 := y5.thaw 2
       have z3 := y5.thaw 3
       clear ho hg hkk hlw x4 y4 B4 hge2 x5 y5 K5 B5))
  refine ret_box1 Try.results48 rfl rfl (put4_box HY5.out _ _ _ _) ⟨⟨⟨h.a0, h.n0, h.c0, a2, h.n1 + 1, c2, h.b, h.a2, h.n2, h.c2⟩, rfl, ⟨R.out.1, ?_, ?_, ?_⟩, ⟨HK.out.1, own_src HO5.out, HK.out.2.2⟩, rfl, rfl, fun b e => by have := HG5.out b e; omega⟩, put4_below HB5.out (by omega) _ _ _ _⟩
  · exact R.out.2.1.below (put4_below HB5.out (by omega) _ _ _ _)
  · exact RdP.own (own_same HO5.out fun g e => put4_same _ _ _ _ _ _ _ (by rw [ob_slice] at e; have := HG5.out g e; omega))
  · exact R.out.2.2.2.below (put4_below HB5.out (by omega) _ _ _ _)
end Go.Proofs.Ytefbaemcdfmhpaa
