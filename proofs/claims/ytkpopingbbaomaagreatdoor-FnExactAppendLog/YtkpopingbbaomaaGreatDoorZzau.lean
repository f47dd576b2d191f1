/-
  Regions that draw their order, whose operations only read, and whose calls make nothing but blocks of their own: one walk serves every order.
-/
import Derived.Test.YtkpopingbbaomaaGreatDoorYnlq
import Derived.Test.YtkpopingbbaomaaGreatDoorZzac
import Derived.Test.YtkpopingbbaomaaGreatDoorZzar
import Derived.Test.YtkpopingbbaomaaGreatDoorZzat
import Derived.Test.YtkpopingbbaomaaGreatDoorZzaf
import Derived.Test.YtkpopingbbaomaaGreatDoorZzab
import Derived.Deep.Quiet
import Derived.Deep.QuietTactic
import Derived.BigQuiet
namespace Go.Proofs.YtkpopingbbaomaaGreatDoor
open Go Go.RowKit
attribute [local go_sem ↓] Go.wp_at_zero Go.wp_at_succ

set_option maxRecDepth 100000 in
set_option maxHeartbeats 8000000 in
theorem c_copyPage (h : G.HG) (D : G.DG) (w : World) (r : G.RdG w h D) (hk : G.SrcG h) (hf : G.FitG D) :
    Calls Tryz.prog 185 #[.agg #[.int .i64 h.l, .slice h.a h.n h.c]] w fun e w' => (∃ h' : G.HG, e = .returned (.agg #[.int .i64 h'.l, .slice h'.a h'.n h'.c]) ∧ h'.n = h.n ∧ G.OwnG w' w.heap.size w'.heap.size h' D) ∧ Below w.heap.size w w' := by
  have hl : D.S.length = h.n := by have := r.2.1; simpa using this
  have hL : h.l = D.L := r.1
  obtain ⟨V, hV⟩ : ∃ V, (w.alloc (.cells #[.int .i64 h.l, .slice h.a h.n h.c] 140)).alloc (.cells #[.int .i64 0, .slice none 0 0] 140) = V := ⟨_, rfl⟩
  have HB : Hid (Below w.heap.size w V) := by unfold Hid; rw [← hV]; exact ((Below.refl _ _).alloc (Nat.le_refl _) _).alloc (by simp) _
  have BX : Hid (Box V w.heap.size 140 #[.int .i64 h.l, .slice h.a h.n h.c]) := by unfold Hid; rw [← hV]; exact (Box.new _ _ _).alloc _
  have BR : Hid (Box V (w.heap.size + 1) 140 #[.int .i64 0, .slice none 0 0]) := by unfold Hid; rw [← hV]; exact Box.new2 _ _ _ _
  have C1 := c_cpS h.a h.n h.c D.S V (r.2.below HB.out) hk (by have := hf.1; omega)
  have HL : Hid (h.l = D.L) := hL
  clear r hk hf hL hl
  obtain ⟨v0, v1⟩ := G.box2 BX.out
  go_enter Tryz.func185, Tryz.ntmps185
  go_wp2_with fail
  refine C1.mono ?_
  rintro e w1 ⟨⟨a', c', rfl, o1, g1⟩, hb⟩
  have s0 : w.heap.size + 1 < V.heap.size := BR.out.lt
  have s1 : V.heap.size ≤ w1.heap.size := hb.size
  have bx := BX.out.belowS hb
  have br := BR.out.belowS hb
  have hbw : Below w.heap.size w w1 := HB.out.trans (hb.mono HB.out.size)
  obtain ⟨W, hW⟩ : ∃ W, w1.setCell ⟨w.heap.size, 1, none⟩ (.slice a' h.n c') = W := ⟨_, rfl⟩
  have X1 : Hid (Box W w.heap.size 140 #[.int .i64 h.l, .slice a' h.n c']) := by unfold Hid; rw [← hW]; have := bx.set 1 (.slice a' h.n c'); simpa using this
  have R1 : Hid (Box W (w.heap.size + 1) 140 #[.int .i64 0, .slice none 0 0]) := by unfold Hid; rw [← hW]; exact br.setOther _ _ (by simp)
  have B1 : Hid (Below w.heap.size w W) := by unfold Hid; rw [← hW]; exact hbw.setCell (Nat.le_refl _) _
  have sW : W.heap.size = w1.heap.size := by rw [← hW]; simp
  have O1 : Hid (W.ownsRow w.heap.size 9 1 (.slice a' h.n c') h.n (D.S.map Value.string)) := own_same (o1.down (by omega)) fun g e => by rw [ob_slice] at e; have := g1 g e; rw [← hW]; exact Below.heap_setCell _ _ _ _ (by simp; omega)
  have G1 : Hid (∀ g, ob a' = some g → w.heap.size + 1 < g ∧ g < W.heap.size) := fun g e => by have := g1 g e; omega
  have z1 := bx.thaw 1
  obtain ⟨b0, b1⟩ := G.box2 bx
  clear v0 v1 hb o1 g1 C1 BX BR HB bx br hbw hV s1
  obtain ⟨x0, x1⟩ := G.box2 X1.out
  obtain ⟨y0, y1⟩ := G.box2 R1.out
  have t0 := R1.out.thaw 0
  have t1 := R1.out.thaw 1
  go_wp2
  refine G.retG1 Tryz.results185 rfl rfl (G.put2_box R1.out _ _) ⟨⟨⟨h.l, a', h.n, c'⟩, rfl, rfl, HL.out, own_same O1.out fun g e => G.put2_same _ _ _ _ _ (by rw [ob_slice] at e; have := G1.out g e; omega), Nat.le_refl _, fun g e => ?_⟩, G.put2_below B1.out (by omega) _ _⟩
  have := G1.out g e
  exact ⟨by omega, by simp; omega⟩

end Go.Proofs.YtkpopingbbaomaaGreatDoor
namespace Go.Proofs.YtkpopingbbaomaaGreatDoor
open Go Go.RowKit
attribute [local go_sem ↓] Go.wp_at_zero Go.wp_at_succ

theorem rdP_none {w : World} {a : Option Addr} {n c : Nat} {xs : List PP} (h : RdP w a n xs) (hs : a = none → c = 0) : a = none → n = 0 ∧ c = 0 := by
  intro e
  refine ⟨?_, hs e⟩
  rcases Nat.eq_zero_or_pos n with h0 | h0
  · exact h0
  · obtain ⟨b, off, e', _⟩ := h.2 h0; rw [e] at e'; cases e'
def zD : Array Value := #[.slice none 0 0, .slice none 0 0, .bool false, .slice none 0 0]
/-- A list that is appended to an empty one, and stored into a field of the disk at g. -/
theorem stage {w V w3 : World} {g e : Nat} {c z : Array Value} (i : Nat) (v : Value) (BX : Box V g 42 c) (BR : Box V (g + 1) 42 z) (HB : Below g w V) (hg : (V.alloc (.cells #[] e)).grownBy w3 (some V.heap.size)) :
    ∃ V1, w3.setCell ⟨g, i, none⟩ v = V1 ∧ V1.heap.size = w3.heap.size ∧ Box V1 g 42 (c.setIfInBounds i v) ∧ Box V1 (g + 1) 42 z ∧ Below g w V1 ∧ w3.cell? ⟨g, i, none⟩ = c[i]? ∧ w3.frozen? ⟨g, i, none⟩ = false ∧ V.heap.size < w3.heap.size ∧ ∀ k, k ≠ g → V1.heap[k]? = w3.heap[k]? := by
  have l1 := BX.lt
  have l2 := BR.lt
  have b1 := (BX.alloc (.cells #[] e)).grown hg (by simp; omega)
  have b2 := (BR.alloc (.cells #[] e)).grown hg (by simp; omega)
  have hb : Below g w w3 := (HB.alloc (by omega) (.cells #[] e)).grown hg (by simp; omega) (fun k h => by cases h; omega)
  have hs : V.heap.size < w3.heap.size := by have := hg.size; simp at this; omega
  exact ⟨_, rfl, by simp, b1.set i v, b2.setOther _ _ (show g + 1 ≠ g by omega), hb.setCell (Nat.le_refl _) _, b1.cell i, b1.thaw i, hs, fun k h => Below.heap_setCell _ _ _ _ h⟩
theorem own_stage {V w3 : World} {base e size n m c e' : Nat} {a : Option Addr} {xs : List Value} (o : V.ownsRow base e size (.slice a m c) n xs) (hg : (V.alloc (.cells #[] e')).grownBy w3 (some V.heap.size)) : w3.ownsRow base e size (.slice a m c) n xs := by
  refine own_same o fun g e => ?_
  have := (o.lt g e).2
  exact (hg.block g (by simp; omega) (by simp; omega)).trans (Below.heap_alloc _ _ _ this)

set_option maxRecDepth 100000 in
set_option maxHeartbeats 8000000 in
theorem c_l02Own (h : HD) (D : DD) (w : World) (r : RdD w h D) (hk : HOK h) (hf : Fit D) :
    Calls Tryz.prog 163 #[.agg #[.slice h.a0 h.n0 h.c0, .slice h.a1 h.n1 h.c1, .bool h.b, .slice h.a2 h.n2 h.c2]] w fun e w' => (∃ h' : HD, e = .returned (.agg #[.slice h'.a0 h'.n0 h'.c0, .slice h'.a1 h'.n1 h'.c1, .bool h'.b, .slice h'.a2 h'.n2 h'.c2]) ∧ OwnD w' w.heap.size w'.heap.size h' D) ∧ Below w.heap.size w w' := by
  have k0 := r.l0
  have k1 := r.l1
  have k2 := r.l2
  obtain ⟨f0, f1, f2, _, _⟩ := hf
  obtain ⟨rb, r0, r1, r2⟩ := r
  obtain ⟨a0, n0, c0, a1, n1, c1, b, a2, n2, c2⟩ := h
  obtain ⟨q0, q1, q2⟩ := hk
  simp only at *
  subst k0 k1 k2 rb
  obtain ⟨i9, hi9, hz90, hz91, hz92⟩ := info_parts infoS
  obtain ⟨i42, hi42, hz420, hz421, hz422⟩ := info_parts info42
  obtain ⟨i3, hi3, hz30, hz31, hz32⟩ := info_parts infoI
  have R0 : Hid (RdV w a0 D.S.length (D.S.map Value.string)) := r0
  have R1 : Hid (RdP w a1 D.C.length D.C) := r1
  have R2 : Hid (RdV w a2 D.K.length (D.K.map (Value.int .i64))) := r2
  have N0 : Hid (a0 = none → D.S.length = 0 ∧ c0 = 0) := rdV_none r0 q0
  have N1 : Hid (a1 = none → D.C.length = 0 ∧ c1 = 0) := rdP_none r1 q1
  have N2 : Hid (a2 = none → D.K.length = 0 ∧ c2 = 0) := rdV_none r2 q2
  have HB : Hid (Below w.heap.size w ((w.alloc (.cells #[.slice a0 D.S.length c0, .slice a1 D.C.length c1, .bool D.A, .slice a2 D.K.length c2] 42)).alloc (.cells #[.slice none 0 0, .slice none 0 0, .bool false, .slice none 0 0] 42))) := ((Below.refl _ _).alloc (Nat.le_refl _) _).alloc (by simp) _
  have BX : Hid (Box ((w.alloc (.cells #[.slice a0 D.S.length c0, .slice a1 D.C.length c1, .bool D.A, .slice a2 D.K.length c2] 42)).alloc (.cells #[.slice none 0 0, .slice none 0 0, .bool false, .slice none 0 0] 42)) w.heap.size 42 #[.slice a0 D.S.length c0, .slice a1 D.C.length c1, .bool D.A, .slice a2 D.K.length c2]) := (Box.new _ _ _).alloc _
  have BR : Hid (Box ((w.alloc (.cells #[.slice a0 D.S.length c0, .slice a1 D.C.length c1, .bool D.A, .slice a2 D.K.length c2] 42)).alloc (.cells #[.slice none 0 0, .slice none 0 0, .bool false, .slice none 0 0] 42)) (w.heap.size + 1) 42 #[.slice none 0 0, .slice none 0 0, .bool false, .slice none 0 0]) := Box.new2 _ _ _ _
  have SZ : Hid (((w.alloc (.cells #[.slice a0 D.S.length c0, .slice a1 D.C.length c1, .bool D.A, .slice a2 D.K.length c2] 42)).alloc (.cells #[.slice none 0 0, .slice none 0 0, .bool false, .slice none 0 0] 42)).heap.size = w.heap.size + 1 + 1) := by unfold Hid; simp
  clear r0 r1 r2 q0 q1 q2
  generalize hV : ((w.alloc (.cells #[.slice a0 D.S.length c0, .slice a1 D.C.length c1, .bool D.A, .slice a2 D.K.length c2] 42)).alloc (.cells #[.slice none 0 0, .slice none 0 0, .bool false, .slice none 0 0] 42)) = V at HB BX BR SZ
  have l1 := BR.out.lt
  have l0 := BX.out.lt
  obtain ⟨v0, v1, v2, v3⟩ := box4 BX.out
  go_enter Tryz.func163, Tryz.ntmps163
  go_wp2_with (first
    | (at_builtin; refine app_any _ rfl (.tmp 3) (.tmp 5) 22 rfl w.heap.size 9 i9 (.string ⟨#[]⟩) 1 16 Tryz.underlying22 hi9 hz90 hz91 hz92 rfl (by omega) (.slice (some ⟨V.heap.size, 0, none⟩) 0 0) 0 [] rfl (World.ownsRow_lit V #[] 0 HB.out.size (Nat.zero_le _) rfl) a0 D.S.length c0 (D.S.map Value.string) rfl N0.out (by simp) (fun ad e => src1 (e ▸ (R0.out.below (HB.out.alloc HB.out.size _)))) (map_one _ (fun _ => rfl) _) (by unfold maxLen; omega) (by omega) (by have := HB.out.size; simp; omega) ?_
       intro a0' c0' wV1 ho hg hk
       obtain ⟨V1, hVV1, hs, X, Y, B, t1, t2, t3, hsame⟩ := stage 0 (.slice a0' (0 + D.S.length) c0') BX.out BR.out HB.out hg
       rw [Nat.zero_add] at hVV1 X ho
       rw [List.nil_append] at ho
       simp at t1 X
       have hge : ∀ g, ob a0' = some g → V.heap.size ≤ g := fun g e => by rcases hk g e with h | h; exact Nat.le_of_eq (Option.some.inj h); rw [h]; simp
       have HX1 : Hid (Box V1 w.heap.size 42 _) := X
       have HY1 : Hid (Box V1 (w.heap.size + 1) 42 _) := Y
       have HB1 : Hid (Below w.heap.size w V1) := B
       have HO1 : Hid (V1.ownsRow w.heap.size 9 1 (.slice a0' D.S.length c0') D.S.length (D.S.map Value.string)) := own_same ho fun g e => hsame g (by rw [ob_slice] at e; have := hge g e; omega)
       have HG1 : Hid (∀ g, ob a0' = some g → w.heap.size + 1 < g ∧ g < V1.heap.size) := fun g e => by have := ho.lt g (by rw [ob_slice]; exact e); have := hge g e; omega
       clear ho hg hk hge hs B hsame v0 v1 v2 v3
       have l3 := X.lt
       have l4 := Y.lt
       obtain ⟨v0, v1, v2, v3⟩ := box4 X
       clear X Y)
    | (at_builtin; refine app_any _ rfl (.tmp 8) (.tmp 10) 40 rfl w.heap.size 197 i42 (.agg #[.int .i64 0, .string ⟨#[]⟩]) 2 24 Tryz.underlying40 hi42 hz420 hz421 hz422 rfl (by omega) (.slice (some ⟨V1.heap.size, 0, none⟩) 0 0) 0 [] rfl (World.ownsRow_lit V1 #[] 0 HB1.out.size (Nat.zero_le _) rfl) a1 D.C.length c1 (cellsP D.C) rfl N1.out (cellsP_len _) (fun ad e => srcP (e ▸ (R1.out.below (HB1.out.alloc HB1.out.size _)))) (cellsP_one _) (by unfold maxLen; omega) (by omega) (by have := HB1.out.size; simp; omega) ?_
       intro a1' c1' wV2 ho hg hk
       obtain ⟨V2, hVV2, hs, X, Y, B, t1, t2, t3, hsame⟩ := stage 1 (.slice a1' (0 + D.C.length) c1') HX1.out HY1.out HB1.out hg
       rw [Nat.zero_add] at hVV2 X ho
       rw [List.nil_append] at ho
       simp at t1 X
       have hge : ∀ g, ob a1' = some g → V1.heap.size ≤ g := fun g e => by rcases hk g e with h | h; exact Nat.le_of_eq (Option.some.inj h); rw [h]; simp
       have HX2 : Hid (Box V2 w.heap.size 42 _) := X
       have HY2 : Hid (Box V2 (w.heap.size + 1) 42 _) := Y
       have HB2 : Hid (Below w.heap.size w V2) := B
       have HP1 : Hid (V2.ownsRow w.heap.size 9 1 (.slice a0' D.S.length c0') D.S.length (D.S.map Value.string)) := own_same (own_stage HO1.out hg) fun g e => hsame g (by rw [ob_slice] at e; have := HG1.out g e; omega)
       have HO2 : Hid (V2.ownsRow w.heap.size 197 2 (.slice a1' D.C.length c1') D.C.length (cellsP D.C)) := own_same ho fun g e => hsame g (by rw [ob_slice] at e; have := hge g e; omega)
       have HG2 : Hid (∀ g, ob a1' = some g → V1.heap.size ≤ g ∧ g < V2.heap.size) := fun g e => by have := ho.lt g (by rw [ob_slice]; exact e); have := hge g e; omega
       have HS2 : Hid (V1.heap.size ≤ V2.heap.size) := by unfold Hid; omega
       clear ho hg hk hge hs B hsame v0 v1 v2 v3
       have l5 := X.lt
       have l6 := Y.lt
       obtain ⟨v0, v1, v2, v3⟩ := box4 X
       clear X Y)
    | (at_builtin; refine app_any _ rfl (.tmp 13) (.tmp 15) 24 rfl w.heap.size 3 i3 (.int .i64 0) 1 8 Tryz.underlying24 hi3 hz30 hz31 hz32 rfl (by omega) (.slice (some ⟨V2.heap.size, 0, none⟩) 0 0) 0 [] rfl (World.ownsRow_lit V2 #[] 0 HB2.out.size (Nat.zero_le _) rfl) a2 D.K.length c2 (D.K.map (Value.int .i64)) rfl N2.out (by simp) (fun ad e => src1 (e ▸ (R2.out.below (HB2.out.alloc HB2.out.size _)))) (map_one _ (fun _ => rfl) _) (by unfold maxLen; omega) (by omega) (by have := HB2.out.size; simp; omega) ?_
       intro a2' c2' wV3 ho hg hk
       obtain ⟨V3, hVV3, hs, X, Y, B, t1, t2, t3, hsame⟩ := stage 3 (.slice a2' (0 + D.K.length) c2') HX2.out HY2.out HB2.out hg
       rw [Nat.zero_add] at hVV3 X ho
       rw [List.nil_append] at ho
       simp at t1 X
       have hge : ∀ g, ob a2' = some g → V2.heap.size ≤ g := fun g e => by rcases hk g e with h | h; exact Nat.le_of_eq (Option.some.inj h); rw [h]; simp
       have HY3 : Hid (Box V3 (w.heap.size + 1) 42 _) := Y
       have HB3 : Hid (Below w.heap.size w V3) := B
       have HQ1 : Hid (V3.ownsRow w.heap.size 9 1 (.slice a0' D.S.length c0') D.S.length (D.S.map Value.string)) := own_same (own_stage HP1.out hg) fun g e => hsame g (by rw [ob_slice] at e; have := HG1.out g e; omega)
       have HQ2 : Hid (V3.ownsRow w.heap.size 197 2 (.slice a1' D.C.length c1') D.C.length (cellsP D.C)) := own_same (own_stage HO2.out hg) fun g e => hsame g (by rw [ob_slice] at e; have := HG2.out g e; omega)
       have HQ3 : Hid (V3.ownsRow w.heap.size 3 1 (.slice a2' D.K.length c2') D.K.length (D.K.map (Value.int .i64))) := own_same ho fun g e => hsame g (by rw [ob_slice] at e; have := hge g e; omega)
       have HG3 : Hid (∀ g, ob a2' = some g → V2.heap.size ≤ g ∧ g < V3.heap.size) := fun g e => by have := ho.lt g (by rw [ob_slice]; exact e); have := hge g e; omega
       have HS3 : Hid (V2.heap.size ≤ V3.heap.size) := by unfold Hid; omega
       clear ho hg hk hge hs B hsame v0 v1 v2 v3
       have l7 := X.lt
       have l8 := Y.lt
       obtain ⟨v0, v1, v2, v3⟩ := box4 X
       obtain ⟨y0, y1, y2, y3⟩ := box4 Y
       have z0 := Y.thaw 0
       have z1 := Y.thaw 1
       have z2 := Y.thaw 2
       have z3 := Y.thaw 3
       clear X Y))
  refine ret_box1 Tryz.results163 rfl rfl (put4_box HY3.out _ _ _ _) ⟨⟨⟨a0', D.S.length, c0', a1', D.C.length, c1', D.A, a2', D.K.length, c2'⟩, rfl, rfl, ?_, ?_, ?_, Nat.le_refl _, fun g e => ?_, fun g e => ?_, fun g e => ?_⟩, put4_below HB3.out (by omega) _ _ _ _⟩
  · refine own_same HQ1.out fun g e => ?_
    rw [ob_slice] at e
    have := HG1.out g e
    rw [put4_same _ _ _ _ _ _ _ (by omega)]
  · refine own_same HQ2.out fun g e => ?_
    rw [ob_slice] at e
    have := HG2.out g e
    rw [put4_same _ _ _ _ _ _ _ (by omega)]
  · refine own_same HQ3.out fun g e => ?_
    rw [ob_slice] at e
    have := HG3.out g e
    rw [put4_same _ _ _ _ _ _ _ (by omega)]
  · have h0 := HG1.out g e
    have := HS2.out
    have := HS3.out
    refine ⟨by omega, by simp; omega, fun e' => ?_, fun e' => ?_⟩
    · have := HG2.out g e'; omega
    · have := HG3.out g e'; omega
  · have h0 := HG2.out g e
    have := HS3.out
    refine ⟨by omega, by simp; omega, fun e' => ?_⟩
    have := HG3.out g e'; omega
  · have h0 := HG3.out g e
    exact ⟨by omega, by simp; omega⟩
end Go.Proofs.YtkpopingbbaomaaGreatDoor
namespace Go.Proofs.YtkpopingbbaomaaGreatDoor.G
open Go Go.RowKit
attribute [local go_sem ↓] Go.wp_at_zero Go.wp_at_succ
set_option maxRecDepth 100000 in
set_option maxHeartbeats 4000000 in
theorem c_own (h : HG) (D : DG) (w : World) (r : RdG w h D) (hk : SrcG h) (hf : FitG D) :
    Calls Tryz.prog 178 #[.agg #[.int .i64 h.l, .slice h.a h.n h.c]] w fun e w' => (∃ h' : HG, e = .returned (.agg #[.int .i64 h'.l, .slice h'.a h'.n h'.c]) ∧ OwnG w' w.heap.size w'.heap.size h' D) ∧ Below w.heap.size w w' := by
  have k0 := r.len
  obtain ⟨f0, _⟩ := hf
  obtain ⟨rl, r0⟩ := r
  obtain ⟨l, a, n, c⟩ := h
  unfold SrcG at hk
  simp only at *
  subst k0 rl
  obtain ⟨i9, g9, g90, g91, g92⟩ := info_parts infoS
  have hi9 : Hid (Tryz.prog.info? 9 = some i9) := g9
  have hz90 : Hid (i9.zero = some (.string ⟨#[]⟩)) := g90
  have hz91 : Hid (i9.size = 1) := g91
  have hz92 : Hid (i9.bytes = 16) := g92
  clear g9 g90 g91 g92
  have R0 : Hid (RdV w a D.S.length (D.S.map Value.string)) := r0
  have N0 : Hid (a = none → D.S.length = 0 ∧ c = 0) := rdV_none r0 hk
  clear r0 hk
  obtain ⟨V, hV⟩ : ∃ V, (w.alloc (.cells #[.int .i64 D.L, .slice a D.S.length c] 140)).alloc (.cells #[.int .i64 0, .slice none 0 0] 140) = V := ⟨_, rfl⟩
  have HB : Hid (Below w.heap.size w V) := by unfold Hid; rw [← hV]; exact ((Below.refl _ _).alloc (Nat.le_refl _) _).alloc (by simp) _
  have BX : Hid (Box V w.heap.size 140 #[.int .i64 D.L, .slice a D.S.length c]) := by unfold Hid; rw [← hV]; exact (Box.new _ _ _).alloc _
  have BR : Hid (Box V (w.heap.size + 1) 140 #[.int .i64 0, .slice none 0 0]) := by unfold Hid; rw [← hV]; exact Box.new2 _ _ _ _
  have SZ : Hid (V.heap.size = w.heap.size + 1 + 1) := by unfold Hid; rw [← hV]; simp
  obtain ⟨v0, v1⟩ := box2 BX.out
  obtain ⟨u0, u1⟩ := box2 BR.out
  have t0 := BR.out.thaw 0
  have t1 := BR.out.thaw 1
  have l0 := BX.out.lt
  have l1 := BR.out.lt
  go_enter Tryz.func178, Tryz.ntmps178
  go_wp2_with (
    at_builtin; refine app_any _ rfl (.tmp 3) (.tmp 5) 22 rfl w.heap.size 9 i9 (.string ⟨#[]⟩) 1 16 Tryz.underlying22 hi9.out hz90.out hz91.out hz92.out rfl (by omega) (.slice (some ⟨V.heap.size, 0, none⟩) 0 0) 0 [] rfl (World.ownsRow_lit V #[] 0 HB.out.size (Nat.zero_le _) rfl) a D.S.length c (D.S.map Value.string) rfl N0.out (by simp) (fun ad e => src1 (e ▸ (R0.out.below (HB.out.alloc HB.out.size _)))) (map_one _ (fun _ => rfl) _) (by unfold maxLen; omega) (by omega) (by have := HB.out.size; simp; omega) ?_
    intro a' c' w3 ho hg0 hk0
    have hsz := SZ.out
    have hg : (V.alloc (.cells #[] 9)).grownBy w3 (some V.heap.size) := hg0
    have hk : ∀ g, ob a' = some g → some V.heap.size = some g ∨ g = (V.alloc (.cells #[] 9)).heap.size := hk0
    clear hg0 hk0
    rw [Nat.zero_add] at ho
    rw [List.nil_append] at ho
    have hsz3 : V.heap.size < w3.heap.size := by have := hg.size; simp at this; omega
    have hge : ∀ g, ob a' = some g → V.heap.size ≤ g := fun g e => by rcases hk g e with h | h; exact Nat.le_of_eq (Option.some.inj h); rw [h]; simp
    have hlt : ∀ g, ob a' = some g → g < w3.heap.size := fun g e => (ho.lt g (by rw [ob_slice]; exact e)).2
    have bx3 : Box w3 w.heap.size 140 _ := (BX.out.alloc _).grown hg (by simp; omega)
    have br3 : Box w3 (w.heap.size + 1) 140 _ := (BR.out.alloc _).grown hg (by simp; omega)
    have hb3 : Below w.heap.size w w3 := (HB.out.alloc HB.out.size (.cells #[] 9)).grown hg (by simp; omega) (fun k h => by cases h; omega)
    obtain ⟨V1, hV1⟩ : ∃ V1, w3.setCell ⟨w.heap.size, 1, none⟩ (.slice a' D.S.length c') = V1 := ⟨_, rfl⟩
    have HB1 : Hid (Below w.heap.size w V1) := by unfold Hid; rw [← hV1]; exact hb3.setCell (Nat.le_refl _) _
    have BX1 : Hid (Box V1 w.heap.size 140 #[.int .i64 D.L, .slice a' D.S.length c']) := by unfold Hid; rw [← hV1]; have := bx3.set 1 (.slice a' D.S.length c'); simpa using this
    have BR1 : Hid (Box V1 (w.heap.size + 1) 140 #[.int .i64 0, .slice none 0 0]) := by unfold Hid; rw [← hV1]; exact br3.setOther _ _ (by simp)
    have O1 : Hid (OwnG V1 V.heap.size V1.heap.size ⟨D.L, a', D.S.length, c'⟩ D) := by
      refine ⟨rfl, ?_, Nat.le_refl _, fun g e => ⟨hge g e, by have := hlt g e; rw [← hV1]; simpa using this⟩⟩
      have o' : V1.ownsRow w.heap.size 9 1 (.slice a' D.S.length c') D.S.length (D.S.map Value.string) := own_same ho fun g e => by
        rw [ob_slice] at e; have := hge g e; rw [← hV1]; exact Below.heap_setCell _ _ _ _ (by simp; omega)
      rcases o' with ⟨h1, h2⟩
      refine ⟨h1, ?_⟩
      rcases h2 with h0 | ⟨g, cap, cur, hv, hb, hr⟩
      · exact .inl h0
      · exact .inr ⟨g, cap, cur, hv, hge g (by cases hv; rfl), hr⟩
    clear v0 v1 u0 u1 t0 t1
    obtain ⟨v0, v1⟩ := box2 bx3
    have t2 := bx3.thaw 1
    obtain ⟨x0, x1⟩ := box2 BX1.out
    obtain ⟨u0, u1⟩ := box2 BR1.out
    have t0 := BR1.out.thaw 0
    have t1 := BR1.out.thaw 1
    have hle : w.heap.size + 1 < V.heap.size := by omega
    have HLE : Hid (w.heap.size + 1 < V.heap.size) := hle
    clear ho hg hk hge hlt bx3 br3 hb3 HB BX BR hV hsz SZ)
  refine retG1 Tryz.results178 rfl rfl (put2_box BR1.out _ _) ⟨⟨⟨D.L, a', D.S.length, c'⟩, rfl, ?_⟩, put2_below HB1.out (by omega) _ _⟩
  have := O1.out.put2 (r := w.heap.size + 1) (.inl (by omega)) (.int .i64 D.L) (.slice a' D.S.length c')
  exact this.wide (B' := w.heap.size) (by omega)

end Go.Proofs.YtkpopingbbaomaaGreatDoor.G
namespace Go.Proofs.YtkpopingbbaomaaGreatDoor
open Go Go.RowKit
attribute [local go_sem ↓] Go.wp_at_zero Go.wp_at_succ

def rdO (no : Int) (s : ByteArray) : Option G.DG := if unsB (numsT s) then G.rpD no (headZ (numsT s)) else none
theorem pg_rd {no : Int} {s : ByteArray} (h : s.toList.isEmpty = false) : pgO no s = rdO no s := by unfold pgO rdO; rw [h]; rfl
set_option maxRecDepth 100000 in
set_option maxHeartbeats 4000000 in
theorem c_l03R (no : Int) (s : ByteArray) (w : World) (hs : s.size ≤ 65536) :
    Calls Tryz.prog 203 #[.int .i64 no, .string s] w fun e w' => (∃ h' : G.HG, e = .returned (.tuple #[.agg #[.int .i64 h'.l, .slice h'.a h'.n h'.c], .bool (rdO no s).isSome]) ∧ ∀ P, rdO no s = some P → h'.l = P.L) ∧ Below w.heap.size w w' := by
  have hl : (numsT s).length = s.size := nums_len s
  cases hu : unsB (numsT s)
  · have E : Hid (rdO no s = none) := by unfold Hid rdO; rw [hu]; rfl
    obtain ⟨V, hV⟩ : ∃ V, w.alloc (.cells #[.int .i64 0, .slice none 0 0] 140) = V := ⟨_, rfl⟩
    have HB : Hid (Below w.heap.size w V) := by unfold Hid; rw [← hV]; exact (Below.refl _ _).alloc (Nat.le_refl _) _
    have BR : Hid (Box V w.heap.size 140 #[.int .i64 0, .slice none 0 0]) := by unfold Hid; rw [← hV]; exact Box.new _ _ _
    obtain ⟨T, US⟩ : ∃ T, Calls Tryz.prog 265 #[.string s] V fun e w' => e = .returned (.tuple #[.string T, .bool false]) ∧ Below V.heap.size V w' := by
      by_cases h4 : s.size < 4
      · refine ⟨⟨#[]⟩, ?_⟩
        have := c_unsealS_lo (numsT s) V (by omega)
        rw [nums_get] at this
        exact this.mono fun e w' ⟨he, q, hq⟩ => ⟨he, by rw [hq]; exact below_drewN (Below.refl _ _) q⟩
      · refine ⟨unsT (numsT s) false, ?_⟩
        have := c_unsealS (numsT s) V (nums_bytes s) (by omega) (by omega)
        rw [nums_get, hu] at this
        exact this
    clear hu hl hs
    go_enter Tryz.func203, Tryz.ntmps203
    go_wp2_with fail
    refine US.mono ?_
    rintro e' w1 ⟨rfl, hb⟩
    have B1 : Hid (Below w.heap.size w w1) := HB.out.trans (hb.mono HB.out.size)
    have BR1 : Hid (Box w1 w.heap.size 140 #[.int .i64 0, .slice none 0 0]) := BR.out.belowS hb
    clear hb hV HB BR US
    obtain ⟨u0, u1⟩ := G.box2 BR1.out
    have t0 := BR1.out.thaw 0
    have t1 := BR1.out.thaw 1
    go_wp2
    refine G.retG2 Tryz.results203 rfl rfl rfl (G.put2_box BR1.out _ _) ⟨?_, G.put2_below B1.out (Nat.le_refl _) _ _⟩
    rw [E.out]
    exact ⟨⟨0, none, 0, 0⟩, rfl, fun _ h => by cases h⟩
  · have h4 : 4 ≤ s.size := by
      rcases Nat.lt_or_ge s.size 4 with h | h
      · rw [uns_lo (by rw [nums_len]; exact h)] at hu; cases hu
      · exact h
    have E : rdO no s = G.rpD no (headZ (numsT s)) := by unfold rdO; rw [hu]; rfl
    have := G.c_read no (numsT s) w (nums_bytes s) (by omega) (by omega) hu
    rw [nums_get] at this
    rw [E]
    exact this.mono fun e w' ⟨⟨h', he, D', o, hD⟩, hb⟩ => ⟨⟨h', he, fun P hP => by rw [o.1, hD P hP]⟩, hb⟩
set_option maxRecDepth 100000 in
set_option maxHeartbeats 4000000 in
theorem c_l05Page (h : HD) (D : DD) (p : Nat) (w : World) (r : RdD w h D) (hok : okD D = true) (hp : 1 + p < h.n0) :
    Calls Tryz.prog 119 #[.agg #[.slice h.a0 h.n0 h.c0, .slice h.a1 h.n1 h.c1, .bool h.b, .slice h.a2 h.n2 h.c2], .int .i64 (p : Int)] w fun e w' => (∃ h' : G.HG, e = .returned (.tuple #[.agg #[.int .i64 h'.l, .slice h'.a h'.n h'.c], .bool (pgO p (rdS D.S D.C (1 + p))).isSome]) ∧ ∀ P, pgO p (rdS D.S D.C (1 + p)) = some P → h'.l = P.L) ∧ Below w.heap.size w w' := by
  have hn0 : h.n0 ≤ 100 := by have := (ok_parts hok).1.1; have := r.l0; omega
  have hn1 : h.n1 ≤ 500 := by have := (ok_parts hok).1.2; have := r.l1; omega
  obtain ⟨V, hV⟩ : ∃ V, (w.alloc (.cells #[.slice h.a0 h.n0 h.c0, .slice h.a1 h.n1 h.c1, .bool h.b, .slice h.a2 h.n2 h.c2] 42)).alloc (.cells #[.int .i64 0, .slice none 0 0] 140) = V := ⟨_, rfl⟩
  have HB : Hid (Below w.heap.size w V) := by unfold Hid; rw [← hV]; exact ((Below.refl _ _).alloc (Nat.le_refl _) _).alloc (by simp) _
  have X : Hid (Box V w.heap.size 42 #[.slice h.a0 h.n0 h.c0, .slice h.a1 h.n1 h.c1, .bool h.b, .slice h.a2 h.n2 h.c2]) := by unfold Hid; rw [← hV]; exact (Box.new _ _ _).alloc _
  have Y : Hid (Box V (w.heap.size + 1) 140 #[.int .i64 0, .slice none 0 0]) := by
    unfold Hid; rw [← hV]
    have := Box.new (w.alloc (.cells #[.slice h.a0 h.n0 h.c0, .slice h.a1 h.n1 h.c1, .bool h.b, .slice h.a2 h.n2 h.c2] 42)) #[.int .i64 0, .slice none 0 0] 140
    rwa [World.size_alloc] at this
  obtain ⟨s, hs⟩ : ∃ s, s = rdS D.S D.C (1 + p) := ⟨_, rfl⟩
  have hsz : s.size ≤ 160 := by rw [hs]; exact rdS_size (ok_parts hok).2.1 (ok_parts hok).2.2
  have RS := c_l02Read h.a0 h.n0 h.c0 h.a1 h.n1 h.c1 h.b h.a2 h.n2 h.c2 D.S D.C (1 + p) V (r.2.1.below HB.out) (r.2.2.1.below HB.out) hp (by omega) (by omega)
  rw [← hs] at RS ⊢
  have RSx : Hid (∀ x : Int, x = 1 + (p : Int) → Calls Tryz.prog 201 #[.agg #[.slice h.a0 h.n0 h.c0, .slice h.a1 h.n1 h.c1, .bool h.b, .slice h.a2 h.n2 h.c2], .int .i64 x] V fun e W' => e = .returned (.string s) ∧ Below V.heap.size V W') := fun x hx => by
    rw [hx, show (1 + (p : Int)) = ((1 + p : Nat) : Int) by omega]; exact RS
  clear RS hs r hok
  obtain ⟨x0, x1, x2, x3⟩ := box4 X.out
  go_enter Tryz.func119, Tryz.ntmps119
  go_wp2_with fail
  refine (RSx.out _ (by omega)).mono ?_
  rintro e w1 ⟨rfl, hb1⟩
  have B1 : Hid (Below w.heap.size w w1) := HB.out.trans (hb1.mono HB.out.size)
  have Y1 : Hid (Box w1 (w.heap.size + 1) 140 #[.int .i64 0, .slice none 0 0]) := Y.out.belowS hb1
  clear hb1 HB X Y hV RSx x0 x1 x2 x3
  cases he : s.toList.isEmpty
  · have HP : Hid (pgO p s = rdO p s) := pg_rd he
    have hne : (s.toList == []) = false := by cases hh : s.toList with | nil => rw [hh] at he; cases he | cons _ _ => rfl
    go_wp2_with fail
    refine (c_l03R p s w1 (by omega)).mono ?_
    rintro e w2 ⟨⟨h2, rfl, hP2⟩, hb2⟩
    have HP2 : Hid (∀ P, rdO p s = some P → h2.l = P.L) := hP2
    have B2 : Hid (Below w.heap.size w w2) := B1.out.trans (hb2.mono B1.out.size)
    have Y2 : Hid (Box w2 (w.heap.size + 1) 140 #[.int .i64 0, .slice none 0 0]) := Y1.out.belowS hb2
    clear hb2 hP2 B1 Y1
    obtain ⟨u0, u1⟩ := G.box2 Y2.out
    have t0 := Y2.out.thaw 0
    have t1 := Y2.out.thaw 1
    go_wp2
    refine G.retG2 Tryz.results119 rfl rfl rfl (G.put2_box Y2.out _ _) ⟨⟨h2, by rw [HP.out]; rfl, fun P hP => HP2.out P (by rw [← HP.out]; exact hP)⟩, G.put2_below B2.out (by omega) _ _⟩
  · have HP : Hid (pgO p s = some G.newG) := pg_new he
    have hse : s.toList = [] := List.isEmpty_iff.1 he
    clear he
    go_wp2_with fail
    refine (G.c_specNew w1).mono ?_
    rintro e w2 ⟨⟨h2, rfl, o2⟩, hb2⟩
    have HL2 : Hid (h2.l = G.newG.L) := o2.1
    have B2 : Hid (Below w.heap.size w w2) := B1.out.trans (hb2.mono B1.out.size)
    have Y2 : Hid (Box w2 (w.heap.size + 1) 140 #[.int .i64 0, .slice none 0 0]) := Y1.out.belowS hb2
    clear hb2 o2 B1 Y1
    obtain ⟨u0, u1⟩ := G.box2 Y2.out
    have t0 := Y2.out.thaw 0
    have t1 := Y2.out.thaw 1
    go_wp2
    refine G.retG2 Tryz.results119 rfl rfl rfl (G.put2_box Y2.out _ _) ⟨⟨h2, by rw [HP.out]; rfl, fun P hP => by rw [HP.out] at hP; cases hP; exact HL2.out⟩, G.put2_below B2.out (by omega) _ _⟩

end Go.Proofs.YtkpopingbbaomaaGreatDoor
namespace Go.Proofs.YtkpopingbbaomaaGreatDoor
open Go Go.RowKit
attribute [local go_sem ↓] Go.wp_at_zero Go.wp_at_succ

/-- The worlds that a world grows into. -/
structure Out (w : World) where
  y : World
  p : Below w.heap.size w y
theorem Out.some (w : World) : Nonempty (Out w) := ⟨⟨w, Below.refl _ _⟩⟩
theorem q_begin {P : Program} {id : Nat} {Q : Exit → Act → World → Prop} {a : Act} {w : World} {l : List Oper} (hm : P.follows .mixedOrders = true) (hB : Region.lexB .any l.toArray = true) (h : wpQuiet P l.toArray (fun x => ∃ q : Out w, x = q.y) (fun a' => ∀ w', (∃ q : Out w, w' = q.y) → Q .normal a' w') l a) : (Code.region id l.toArray true).wp P Q a w :=
  wp_region_quiet (C := fun x => ∃ q : Out w, x = q.y) hm hB ⟨⟨_, (Below.refl _ _).drew⟩, rfl⟩ (by rw [show l.toArray.toList = l by simp]; exact h)
theorem q_call {P : Program} {w : World} {q : Out w} {f : FuncId} {args : Array Value} {v : Value} (h : Calls P f args q.y fun e y => e = .returned v ∧ Below q.y.heap.size q.y y) : Calls P f args q.y fun e y => e = .returned v ∧ ∃ q' : Out w, y = q'.y :=
  h.mono fun _ y hy => ⟨hy.1, ⟨y, q.p.trans (hy.2.mono q.p.size)⟩, rfl⟩
theorem q_same {P : Program} {w : World} {q : Out w} {f : FuncId} {args : Array Value} {v : Value} (h : Calls P f args q.y fun e y => e = .returned v ∧ y = q.y) : Calls P f args q.y fun e y => e = .returned v ∧ ∃ q' : Out w, y = q'.y :=
  h.mono fun _ _ hy => ⟨hy.1, q, hy.2⟩
theorem q_cell {w : World} {b o : Nat} {u : Value} (h : w.cell? ⟨b, o, none⟩ = some u) (q : Out w) : q.y.cell? ⟨b, o, none⟩ = some u := far6 q.p h

end Go.Proofs.YtkpopingbbaomaaGreatDoor
