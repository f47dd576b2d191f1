/-
  The specification's own copy of a disk.
-/
import Derived.Test.YtefbaemcdfmhpaaCp
import Derived.Test.YtefbaemcdfmhpaaL6
namespace Go.Proofs.Ytefbaemcdfmhpaa
open Go Go.RowKit
attribute [local go_sem ↓] Go.wp_at_zero Go.wp_at_succ

theorem app_any {P : Program} (w : World) {ops : Array Oper} {rest : List Oper} {o : Oper} {a : Act} {Q : Exit → Act → World → Prop} (hgd : o.guard = none) (s x : Operand) (t : TypeId)
    (ho : o.op = .call { callee := .builtin .append, args := #[s, x], argTypes := #[t, t] })
    (base : Nat) (e : TypeId) (i : TypeInfo) (z : Value) (size bytes : Nat) (ht : P.underlying t = some (.slice e)) (hi : P.info? e = some i) (hz : i.zero = some z)
    (hsize : i.size = size) (hby : i.bytes = bytes) (hzs : z.cells.size = size) (hsz : 0 < size)
    (v : Value) (n : Nat) (xs : List Value) (hs : a.eval s = v) (hown : w.ownsRow base e size v n xs)
    (ax : Option Addr) (m c : Nat) (news : List Value) (hx : a.eval x = .slice ax m c) (hnone : ax = none → m = 0 ∧ c = 0) (hl : news.length = m * size) (hnews : ∀ ad, ax = some ad → ∀ j u, news[j]? = some u → w.cell? (ad.add j) = some u) (h1 : ∀ u ∈ news, u.oneCell' = true)
    (h63 : n + m ≤ maxLen) (hbytes : (n + m) * bytes ≤ 140737488355328) (hbase : base ≤ w.heap.size)
    (h : ∀ a' c' w', w'.ownsRow base e size (.slice a' (n + m) c') (n + m) (xs ++ news) → w.grownBy w' v.ownBlock → (∀ g, ob a' = some g → v.ownBlock = some g ∨ g = w.heap.size) → wpList P ops Q rest (a.put o.dst (.slice a' (n + m) c')) w') : wpList P ops Q (o :: rest) a w := by
  cases ax with
  | none =>
    obtain ⟨rfl, rfl⟩ := hnone rfl
    have hn : news = [] := List.eq_nil_of_length_eq_zero (by simpa using hl)
    subst hn
    obtain ⟨a', c', rfl, _⟩ := own_slc hown
    refine wpList_append_own_none hgd s x t ho base e i size ht hi _ n xs hs hown hx ?_
    exact h a' c' w (by simpa using hown) (World.grownBy.refl _ _) (fun g e => .inl (by rw [ob_slice]; exact e))
  | some ad =>
    refine wpList_append_own_at w hgd s x t ho base e i z size bytes ht hi hz hsize hby hzs hsz v n xs hs hown ad m c news hx hl (hnews ad rfl) h1 h63 hbytes hbase ?_
    intro v' w' hown' hgr hnil hblk
    obtain ⟨a', c', rfl, _⟩ := own_slc hown'
    rw [ob_slice] at hblk
    exact h a' c' w' hown' hgr (fun g e => hblk.elim (fun k => .inl (k ▸ e)) (fun k => .inr (Option.some.inj (e.symm.trans k))))
theorem rdV_none {w : World} {a : Option Addr} {n c : Nat} {xs : List Value} (h : RdV w a n xs) (hs : a = none → c = 0) : a = none → n = 0 ∧ c = 0 := by
  intro e
  refine ⟨?_, hs e⟩
  rcases Nat.eq_zero_or_pos n with h0 | h0
  · exact h0
  · obtain ⟨b, off, e', _⟩ := h.2 h0; rw [e] at e'; cases e'
theorem rdP_none {w : World} {a : Option Addr} {n c : Nat} {xs : List PP} (h : RdP w a n xs) (hs : a = none → c = 0) : a = none → n = 0 ∧ c = 0 := by
  intro e
  refine ⟨?_, hs e⟩
  rcases Nat.eq_zero_or_pos n with h0 | h0
  · exact h0
  · obtain ⟨b, off, e', _⟩ := h.2 h0; rw [e] at e'; cases e'
theorem map_one {α : Type} (f : α → Value) (hf : ∀ x, (f x).oneCell' = true) (l : List α) : ∀ u ∈ l.map f, u.oneCell' = true := by
  intro u hu; obtain ⟨x, _, rfl⟩ := List.mem_map.1 hu; exact hf x
theorem Box.grown {w w' : World} {g : Nat} {t : TypeId} {c : Array Value} {row : Option Nat} (h : Box w g t c) (hg : w.grownBy w' row) (hne : row ≠ some g) : Box w' g t c := (hg.block g h.lt (fun e => hne e.symm)).trans h

def zD : Array Value := #[.slice none 0 0, .slice none 0 0, .bool false, .slice none 0 0]
/-- A list that is appended to an empty one, and stored into a field of the disk at g. -/
theorem stage {w V w3 : World} {g e : Nat} {c z : Array Value} (i : Nat) (v : Value) (BX : Box V g 27 c) (BR : Box V (g + 1) 27 z) (HB : Below g w V) (hg : (V.alloc (.cells #[] e)).grownBy w3 (some V.heap.size)) :
    ∃ V1, w3.setCell ⟨g, i, none⟩ v = V1 ∧ V1.heap.size = w3.heap.size ∧ Box V1 g 27 (c.setIfInBounds i v) ∧ Box V1 (g + 1) 27 z ∧ Below g w V1 ∧ w3.cell? ⟨g, i, none⟩ = c[i]? ∧ w3.frozen? ⟨g, i, none⟩ = false ∧ V.heap.size < w3.heap.size ∧ ∀ k, k ≠ g → V1.heap[k]? = w3.heap[k]? := by
  have l1 := BX.lt
  have l2 := BR.lt
  have b1 := (BX.alloc (.cells #[] e)).grown hg (by simp; omega)
  have b2 := (BR.alloc (.cells #[] e)).grown hg (by simp; omega)
  have hb : Below g w w3 := (HB.alloc (by omega) (.cells #[] e)).grown hg (by simp; omega) (fun k h => by cases h; omega)
  have hs : V.heap.size < w3.heap.size := by have := hg.size; simp at this; omega
  exact ⟨_, rfl, by simp, b1.set i v, b2.setOther _ _ (show g + 1 ≠ g by omega), hb.setCell (Nat.le_refl _) _, b1.cell i, b1.thaw i, hs, fun k h => Below.heap_setCell _ _ _ _ h⟩
theorem own_stage {V w3 : World} {base e size n m c e' : Nat} {a : Option Addr} {xs : List Value} (o : V.ownsRow base e size (.slice a m c) n xs) (hg : (V.alloc (.cells #[] e')).grownBy w3 (some V.heap.size)) : w3.ownsRow base e size (.slice a m c) n xs := by
  refine own_same o fun g e => ?_
  have := (o.lt g e).2
  exact (hg.block g (by simp; omega) (by simp; omega)).trans (Below.heap_alloc _ _ _ this)

set_option maxHeartbeats 4000000 in
theorem c_own (h : HD) (D : DD) (w : World) (r : RdD w h D) (hk : HOK h) (hf : Fit D) :
    Calls Try.prog 47 #[.agg #[.slice h.a0 h.n0 h.c0, .slice h.a1 h.n1 h.c1, .bool h.b, .slice h.a2 h.n2 h.c2]] w fun e w' => (∃ h' : HD, e = .returned (.agg #[.slice h'.a0 h'.n0 h'.c0, .slice h'.a1 h'.n1 h'.c1, .bool h'.b, .slice h'.a2 h'.n2 h'.c2]) ∧ OwnD w' w.heap.size w'.heap.size h' D) ∧ Below w.heap.size w w' := by
  have k0 := r.l0
  have k1 := r.l1
  have k2 := r.l2
  obtain ⟨f0, f1, f2, _, _⟩ := hf
  obtain ⟨rb, r0, r1, r2⟩ := r
  obtain ⟨a0, n0, c0, a1, n1, c1, b, a2, n2, c2⟩ := h
  obtain ⟨q0, q1, q2⟩ := hk
  simp only at *
  subst k0 k1 k2 rb
  obtain ⟨i9, hi9, hz90, hz91, hz92⟩ := info_parts infoS
  obtain ⟨i42, hi42, hz420, hz421, hz422⟩ := info_parts info42
  obtain ⟨i3, hi3, hz30, hz31, hz32⟩ := info_parts infoI
  have R0 : Hid (RdV w a0 D.S.length (D.S.map Value.string)) := r0
  have R1 : Hid (RdP w a1 D.C.length D.C) := r1
  have R2 : Hid (RdV w a2 D.K.length (D.K.map (Value.int .i64))) := r2
  have N0 : Hid (a0 = none → D.S.length = 0 ∧ c0 = 0) := rdV_none r0 q0
  have N1 : Hid (a1 = none → D.C.length = 0 ∧ c1 = 0) := rdP_none r1 q1
  have N2 : Hid (a2 = none → D.K.length = 0 ∧ c2 = 0) := rdV_none r2 q2
  have HB : Hid (Below w.heap.size w ((w.alloc (.cells #[.slice a0 D.S.length c0, .slice a1 D.C.length c1, .bool D.A, .slice a2 D.K.length c2] 27)).alloc (.cells #[.slice none 0 0, .slice none 0 0, .bool false, .slice none 0 0] 27))) := ((Below.refl _ _).alloc (Nat.le_refl _) _).alloc (by simp) _
  have BX : Hid (Box ((w.alloc (.cells #[.slice a0 D.S.length c0, .slice a1 D.C.length c1, .bool D.A, .slice a2 D.K.length c2] 27)).alloc (.cells #[.slice none 0 0, .slice none 0 0, .bool false, .slice none 0 0] 27)) w.heap.size 27 #[.slice a0 D.S.length c0, .slice a1 D.C.length c1, .bool D.A, .slice a2 D.K.length c2]) := (Box.new _ _ _).alloc _
  have BR : Hid (Box ((w.alloc (.cells #[.slice a0 D.S.length c0, .slice a1 D.C.length c1, .bool D.A, .slice a2 D.K.length c2] 27)).alloc (.cells #[.slice none 0 0, .slice none 0 0, .bool false, .slice none 0 0] 27)) (w.heap.size + 1) 27 #[.slice none 0 0, .slice none 0 0, .bool false, .slice none 0 0]) := Box.new2 _ _ _ _
  have SZ : Hid (((w.alloc (.cells #[.slice a0 D.S.length c0, .slice a1 D.C.length c1, .bool D.A, .slice a2 D.K.length c2] 27)).alloc (.cells #[.slice none 0 0, .slice none 0 0, .bool false, .slice none 0 0] 27)).heap.size = w.heap.size + 1 + 1) := by unfold Hid; simp
  clear r0 r1 r2 q0 q1 q2
  generalize hV : ((w.alloc (.cells #[.slice a0 D.S.length c0, .slice a1 D.C.length c1, .bool D.A, .slice a2 D.K.length c2] 27)).alloc (.cells #[.slice none 0 0, .slice none 0 0, .bool false, .slice none 0 0] 27)) = V at HB BX BR SZ
  have l1 := BR.out.lt
  have l0 := BX.out.lt
  obtain ⟨v0, v1, v2, v3⟩ := box4 BX.out
  go_enter Try.func47, Try.ntmps47
  go_wp2_with (first
    | (at_builtin; refine app_any _ rfl (.tmp 3) (.tmp 5) 23 rfl w.heap.size 9 i9 (.string ⟨#[]⟩) 1 16 Try.underlying23 hi9 hz90 hz91 hz92 rfl (by omega) (.slice (some ⟨V.heap.size, 0, none⟩) 0 0) 0 [] rfl (World.ownsRow_lit V #[] 0 HB.out.size (Nat.zero_le _) rfl) a0 D.S.length c0 (D.S.map Value.string) rfl N0.out (by simp) (fun ad e => src1 (e ▸ (R0.out.below (HB.out.alloc HB.out.size _)))) (map_one _ (fun _ => rfl) _) (by unfold maxLen; omega) (by omega) (by have := HB.out.size; simp; omega) ?_
       intro a0' c0' wV1 ho hg hk
       obtain ⟨V1, hVV1, hs, X, Y, B, t1, t2, t3, hsame⟩ := stage 0 (.slice a0' (0 + D.S.length) c0') BX.out BR.out HB.out hg
       rw [Nat.zero_add] at hVV1 X ho
       rw [List.nil_append] at ho
       simp at t1 X
       have hge : ∀ g, ob a0' = some g → V.heap.size ≤ g := fun g e => by rcases hk g e with h | h; exact Nat.le_of_eq (Option.some.inj h); rw [h]; simp
       have HX1 : Hid (Box V1 w.heap.size 27 _) := X
       have HY1 : Hid (Box V1 (w.heap.size + 1) 27 _) := Y
       have HB1 : Hid (Below w.heap.size w V1) := B
       have HO1 : Hid (V1.ownsRow w.heap.size 9 1 (.slice a0' D.S.length c0') D.S.length (D.S.map Value.string)) := own_same ho fun g e => hsame g (by rw [ob_slice] at e; have := hge g e; omega)
       have HG1 : Hid (∀ g, ob a0' = some g → w.heap.size + 1 < g ∧ g < V1.heap.size) := fun g e => by have := ho.lt g (by rw [ob_slice]; exact e); have := hge g e; omega
       clear ho hg hk hge hs B hsame v0 v1 v2 v3
       have l3 := X.lt
       have l4 := Y.lt
       obtain ⟨v0, v1, v2, v3⟩ := box4 X
       clear X Y)
    | (at_builtin; refine app_any _ rfl (.tmp 8) (.tmp 10) 24 rfl w.heap.size 42 i42 (.agg #[.int .i64 0, .string ⟨#[]⟩]) 2 24 Try.underlying24 hi42 hz420 hz421 hz422 rfl (by omega) (.slice (some ⟨V1.heap.size, 0, none⟩) 0 0) 0 [] rfl (World.ownsRow_lit V1 #[] 0 HB1.out.size (Nat.zero_le _) rfl) a1 D.C.length c1 (cellsP D.C) rfl N1.out (cellsP_len _) (fun ad e => srcP (e ▸ (R1.out.below (HB1.out.alloc HB1.out.size _)))) (cellsP_one _) (by unfold maxLen; omega) (by omega) (by have := HB1.out.size; simp; omega) ?_
       intro a1' c1' wV2 ho hg hk
       obtain ⟨V2, hVV2, hs, X, Y, B, t1, t2, t3, hsame⟩ := stage 1 (.slice a1' (0 + D.C.length) c1') HX1.out HY1.out HB1.out hg
       rw [Nat.zero_add] at hVV2 X ho
       rw [List.nil_append] at ho
       simp at t1 X
       have hge : ∀ g, ob a1' = some g → V1.heap.size ≤ g := fun g e => by rcases hk g e with h | h; exact Nat.le_of_eq (Option.some.inj h); rw [h]; simp
       have HX2 : Hid (Box V2 w.heap.size 27 _) := X
       have HY2 : Hid (Box V2 (w.heap.size + 1) 27 _) := Y
       have HB2 : Hid (Below w.heap.size w V2) := B
       have HP1 : Hid (V2.ownsRow w.heap.size 9 1 (.slice a0' D.S.length c0') D.S.length (D.S.map Value.string)) := own_same (own_stage HO1.out hg) fun g e => hsame g (by rw [ob_slice] at e; have := HG1.out g e; omega)
       have HO2 : Hid (V2.ownsRow w.heap.size 42 2 (.slice a1' D.C.length c1') D.C.length (cellsP D.C)) := own_same ho fun g e => hsame g (by rw [ob_slice] at e; have := hge g e; omega)
       have HG2 : Hid (∀ g, ob a1' = some g → V1.heap.size ≤ g ∧ g < V2.heap.size) := fun g e => by have := ho.lt g (by rw [ob_slice]; exact e); have := hge g e; omega
       have HS2 : Hid (V1.heap.size ≤ V2.heap.size) := by unfold Hid; omega
       clear ho hg hk hge hs B hsame v0 v1 v2 v3
       have l5 := X.lt
       have l6 := Y.lt
       obtain ⟨v0, v1, v2, v3⟩ := box4 X
       clear X Y)
    | (at_builtin; refine app_any _ rfl (.tmp 13) (.tmp 15) 25 rfl w.heap.size 3 i3 (.int .i64 0) 1 8 Try.underlying25 hi3 hz30 hz31 hz32 rfl (by omega) (.slice (some ⟨V2.heap.size, 0, none⟩) 0 0) 0 [] rfl (World.ownsRow_lit V2 #[] 0 HB2.out.size (Nat.zero_le _) rfl) a2 D.K.length c2 (D.K.map (Value.int .i64)) rfl N2.out (by simp) (fun ad e => src1 (e ▸ (R2.out.below (HB2.out.alloc HB2.out.size _)))) (map_one _ (fun _ => rfl) _) (by unfold maxLen; omega) (by omega) (by have := HB2.out.size; simp; omega) ?_
       intro a2' c2' wV3 ho hg hk
       obtain ⟨V3, hVV3, hs, X, Y, B, t1, t2, t3, hsame⟩ := stage 3 (.slice a2' (0 + D.K.length) c2') HX2.out HY2.out HB2.out hg
       rw [Nat.zero_add] at hVV3 X ho
       rw [List.nil_append] at ho
       simp at t1 X
       have hge : ∀ g, ob a2' = some g → V2.heap.size ≤ g := fun g e => by rcases hk g e with h | h; exact Nat.le_of_eq (Option.some.inj h); rw [h]; simp
       have HY3 : Hid (Box V3 (w.heap.size + 1) 27 _) := Y
       have HB3 : Hid (Below w.heap.size w V3) := B
       have HQ1 : Hid (V3.ownsRow w.heap.size 9 1 (.slice a0' D.S.length c0') D.S.length (D.S.map Value.string)) := own_same (own_stage HP1.out hg) fun g e => hsame g (by rw [ob_slice] at e; have := HG1.out g e; omega)
       have HQ2 : Hid (V3.ownsRow w.heap.size 42 2 (.slice a1' D.C.length c1') D.C.length (cellsP D.C)) := own_same (own_stage HO2.out hg) fun g e => hsame g (by rw [ob_slice] at e; have := HG2.out g e; omega)
       have HQ3 : Hid (V3.ownsRow w.heap.size 3 1 (.slice a2' D.K.length c2') D.K.length (D.K.map (Value.int .i64))) := own_same ho fun g e => hsame g (by rw [ob_slice] at e; have := hge g e; omega)
       have HG3 : Hid (∀ g, ob a2' = some g → V2.heap.size ≤ g ∧ g < V3.heap.size) := fun g e => by have := ho.lt g (by rw [ob_slice]; exact e); have := hge g e; omega
       have HS3 : Hid (V2.heap.size ≤ V3.heap.size) := by unfold Hid; omega
       clear ho hg hk hge hs B hsame v0 v1 v2 v3
       have l7 := X.lt
       have l8 := Y.lt
       obtain ⟨v0, v1, v2, v3⟩ := box4 X
       obtain ⟨y0, y1, y2, y3⟩ := box4 Y
       have z0 := Y.thaw 0
       have z1 := Y.thaw 1
       have z2 := Y.thaw 2
       have z3 := Y.thaw 3
       clear X Y))
  refine ret_box1 Try.results47 rfl rfl (put4_box HY3.out _ _ _ _) ⟨⟨⟨a0', D.S.length, c0', a1', D.C.length, c1', D.A, a2', D.K.length, c2'⟩, rfl, rfl, ?_, ?_, ?_, Nat.le_refl _, fun g e => ?_, fun g e => ?_, fun g e => ?_⟩, put4_below HB3.out (by omega) _ _ _ _⟩
  · refine own_same HQ1.out fun g e => ?_
    rw [ob_slice] at e
    have := HG1.out g e
    rw [put4_same _ _ _ _ _ _ _ (by omega)]
  · refine own_same HQ2.out fun g e => ?_
    rw [ob_slice] at e
    have := HG2.out g e
    rw [put4_same _ _ _ _ _ _ _ (by omega)]
  · refine own_same HQ3.out fun g e => ?_
    rw [ob_slice] at e
    have := HG3.out g e
    rw [put4_same _ _ _ _ _ _ _ (by omega)]
  · have h0 := HG1.out g e
    have := HS2.out
    have := HS3.out
    refine ⟨by omega, by simp; omega, fun e' => ?_, fun e' => ?_⟩
    · have := HG2.out g e'; omega
    · have := HG3.out g e'; omega
  · have h0 := HG2.out g e
    have := HS3.out
    refine ⟨by omega, by simp; omega, fun e' => ?_⟩
    have := HG3.out g e'; omega
  · have h0 := HG3.out g e
    exact ⟨by omega, by simp; omega⟩
end Go.Proofs.Ytefbaemcdfmhpaa
