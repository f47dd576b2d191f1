/-
  A crash: the program's crashed.
-/
import Derived.Test.YtefbaemcdfmhpaaSe
namespace Go.Proofs.Ytefbaemcdfmhpaa
open Go Go.RowKit
attribute [local go_sem ↓] Go.wp_at_zero Go.wp_at_succ

/-- The writes among the first k that are kept. -/
def keptN (C : List PP) (K : List Int) (k : Nat) : List PP := (List.range k).filterMap fun i => if K.getD i 0 = 0 then none else some (C.getD i dP)
theorem keptN_zero (C : List PP) (K : List Int) : keptN C K 0 = [] := rfl
theorem keptN_no {C : List PP} {K : List Int} {k : Nat} (h : K.getD k 0 = 0) : keptN C K (k + 1) = keptN C K k := by
  unfold keptN; rw [List.range_succ, List.filterMap_append]; simp only [List.filterMap_cons, if_pos h, List.filterMap_nil, List.append_nil]
theorem keptN_yes {C : List PP} {K : List Int} {k : Nat} (h : ¬ K.getD k 0 = 0) : keptN C K (k + 1) = keptN C K k ++ [C.getD k dP] := by
  unfold keptN; rw [List.range_succ, List.filterMap_append]; simp only [List.filterMap_cons, if_neg h, List.filterMap_nil]
theorem keptN_len (C : List PP) (K : List Int) (k : Nat) : (keptN C K k).length ≤ k := by
  unfold keptN; exact Nat.le_trans (List.length_filterMap_le _ _) (by simp)
theorem keptN_mem {C : List PP} {K : List Int} {k : Nat} (hk : k ≤ C.length) : ∀ p ∈ keptN C K k, p ∈ C := by
  intro p hp
  unfold keptN at hp
  obtain ⟨i, hi, he⟩ := List.mem_filterMap.1 hp
  split at he
  · cases he
  · cases he; exact getD_mem C i (by have := List.mem_range.1 hi; omega)
theorem getD_beyond (K : List Int) (k : Nat) (h : ¬ k < K.length) : K.getD k 0 = 0 := by rw [List.getD_eq_getElem?_getD, List.getElem?_eq_none (by omega)]; rfl
/-- What a crash leaves. -/
def crashD (D : DD) (K : List Int) : DD := ⟨settle D.S (keptN D.C K D.C.length), [], false, []⟩
def goodD (D : DD) : Prop := ∀ p ∈ D.C, 0 ≤ p.1 ∧ p.1 < D.S.length
theorem ok_good {D : DD} (h : okD D = true) : goodD D := by
  intro p hp
  unfold okD at h
  simp only [Bool.and_eq_true, List.all_eq_true] at h
  have := h.2.2.1 p hp
  unfold goodC at this
  simp only [Bool.and_eq_true, decide_eq_true_eq] at this
  exact this.1
theorem info27 : (Try.prog.info? 42).map (fun i => (i.zero, i.size, i.bytes)) = some (some (.agg #[.int .i64 0, .string ⟨#[]⟩]), 2, 24) := info42
theorem cell_two (w : World) (o : Obj) (x y : Value) (t : TypeId) : ∀ j u, [x, y][j]? = some u → ((w.alloc o).alloc (.cells #[x, y] t)).cell? ((⟨w.heap.size + 1, 0, none⟩ : Addr).add j) = some u := by
  intro j u hj
  have hb := Box.new2 w o #[x, y] t
  rw [addr_add, Nat.zero_add, hb.cell j]
  rw [← hj]
  simp
theorem oneD {w : World} {B n c : Nat} {a : Option Addr} {S : List ByteArray} (o : w.ownsRow B 9 1 (.slice a n c) n (S.map Value.string)) : OwnD w B w.heap.size ⟨a, n, c, none, 0, 0, false, none, 0, 0⟩ ⟨S, [], false, []⟩ :=
  ⟨rfl, o, World.ownsRow_nil w _ _ _, World.ownsRow_nil w _ _ _, Nat.le_refl _, fun g e => by
    have e' : ob a = some g := e
    rw [← ob_slice _ n c] at e'
    exact ⟨(o.lt g e').1, (o.lt g e').2, nofun, nofun⟩, nofun, nofun⟩

set_option maxHeartbeats 4000000 in
theorem c_crashed (h : HD) (D : DD) (ka : Option Addr) (kn kc : Nat) (K : List Int) (w : World) (r : RdD w h D) (hk : HOK h) (hf : Fit D) (hg : goodD D) (rk : RdV w ka kn (K.map (Value.int .i64))) (hkn : kn ≤ 1048576) :
    Calls Try.prog 51 #[.agg #[.slice h.a0 h.n0 h.c0, .slice h.a1 h.n1 h.c1, .bool h.b, .slice h.a2 h.n2 h.c2], .slice ka kn kc] w fun e w' => (∃ h' : HD, e = .returned (.agg #[.slice h'.a0 h'.n0 h'.c0, .slice h'.a1 h'.n1 h'.c1, .bool h'.b, .slice h'.a2 h'.n2 h'.c2]) ∧ OwnD w' w.heap.size w'.heap.size h' (crashD D K)) ∧ Below w.heap.size w w' := by
  have k0 := r.l0
  have k1 := r.l1
  have k2 := r.l2
  obtain ⟨f0, f1, f2, _, _⟩ := hf
  obtain ⟨rb, r0, r1, r2⟩ := r
  obtain ⟨a0, n0, c0, a1, n1, c1, b, a2, n2, c2⟩ := h
  obtain ⟨q0, _, _⟩ := hk
  simp only at *
  subst k0 k1 k2 rb
  have lk : K.length = kn := by simpa using rk.1
  obtain ⟨i42, hi42, hz420, hz421, hz422⟩ := info_parts info42
  have R0 : Hid (RdV w a0 D.S.length (D.S.map Value.string)) := r0
  have R1 : Hid (RdP w a1 D.C.length D.C) := r1
  have RK : Hid (RdV w ka kn (K.map (Value.int .i64))) := rk
  have Q0 : Hid (a0 = none → c0 = 0) := q0
  have HG : Hid (goodD D) := hg
  have HB : Hid (Below w.heap.size w ((w.alloc (.cells #[.slice a0 D.S.length c0, .slice a1 D.C.length c1, .bool D.A, .slice a2 D.K.length c2] 27)).alloc (.cells #[.slice none 0 0, .slice none 0 0, .bool false, .slice none 0 0] 27))) := ((Below.refl _ _).alloc (Nat.le_refl _) _).alloc (by simp) _
  have BX : Hid (Box ((w.alloc (.cells #[.slice a0 D.S.length c0, .slice a1 D.C.length c1, .bool D.A, .slice a2 D.K.length c2] 27)).alloc (.cells #[.slice none 0 0, .slice none 0 0, .bool false, .slice none 0 0] 27)) w.heap.size 27 #[.slice a0 D.S.length c0, .slice a1 D.C.length c1, .bool D.A, .slice a2 D.K.length c2]) := (Box.new _ _ _).alloc _
  have BR : Hid (Box ((w.alloc (.cells #[.slice a0 D.S.length c0, .slice a1 D.C.length c1, .bool D.A, .slice a2 D.K.length c2] 27)).alloc (.cells #[.slice none 0 0, .slice none 0 0, .bool false, .slice none 0 0] 27)) (w.heap.size + 1) 27 #[.slice none 0 0, .slice none 0 0, .bool false, .slice none 0 0]) := Box.new2 _ _ _ _
  clear r0 r1 r2 q0 rk hg
  go_enter Try.func51, Try.ntmps51
  go_wp2
  go_loopw [5, 11] (fun x i wr => ∃ (k : Nat) (ak : Option Addr) (ck : Nat), k ≤ D.C.length ∧ i = .int .i64 k ∧ x = .slice ak (keptN D.C K k).length ck ∧ wr.ownsRow w.heap.size 42 2 (.slice ak (keptN D.C K k).length ck) (keptN D.C K k).length (cellsP (keptN D.C K k)) ∧ Below w.heap.size w wr ∧ Box wr w.heap.size 27 #[.slice a0 D.S.length c0, .slice a1 D.C.length c1, .bool D.A, .slice a2 D.K.length c2] ∧ Box wr (w.heap.size + 1) 27 #[.slice none 0 0, .slice none 0 0, .bool false, .slice none 0 0] ∧ Hid (∀ g, ob ak = some g → w.heap.size + 1 < g)) (fun _ i _ => D.C.length - (intOf i).toNat)
  case atStart => exact ⟨0, none, 0, by omega, rfl, rfl, World.ownsRow_nil _ _ _ _, HB.out, BX.out, BR.out, fun g e => by cases e⟩
  case round =>
    obtain ⟨k, ak, ck, hk, rfl, rfl, hown, hb, bx, br, hlow⟩ := hrel
    have hL := keptN_len D.C K k
    by_cases hlt : k < D.C.length
    · obtain ⟨bb, off, rfl, hbl, hc⟩ := R1.out.2 (by omega)
      obtain ⟨⟨xa, xt⟩, hx⟩ : ∃ x, x = D.C.getD k dP := ⟨_, rfl⟩
      obtain ⟨d0, d1⟩ := hc k hlt
      rw [← hx] at d0 d1
      have e0 : wr.cell? ⟨bb, off + k * 2, none⟩ = some (.int .i64 xa) := (hb.cell (p := ⟨bb, off + k * 2, none⟩) hbl).trans d0
      have e1 : wr.cell? ⟨bb, off + k * 2 + 1, none⟩ = some (.string xt) := (hb.cell (p := ⟨bb, off + k * 2 + 1, none⟩) hbl).trans d1
      have HX : Hid ((xa, xt) = D.C.getD k dP) := hx
      have hbl2 : bb < wr.heap.size := Nat.lt_of_lt_of_le hbl hb.size
      have l0 := bx.lt
      have l1 := br.lt
      clear hc hx d0 d1
      have HB1 : Hid (Below w.heap.size w (wr.alloc (.cells #[.int .i64 xa, .string xt] 42))) := hb.alloc hb.size _
      by_cases hkk : k < kn
      · obtain ⟨b3, off3, rfl, hbl3, hc3⟩ := RK.out.2 (by omega)
        obtain ⟨y, hy⟩ : ∃ y, y = K.getD k 0 := ⟨_, rfl⟩
        have d3 : wr.cell? ⟨b3, off3 + k, none⟩ = some (.int .i64 y) := by rw [hb.cell (p := ⟨b3, off3 + k, none⟩) hbl3, hc3 k hkk, hy]; exact map_get _ _ _ _ (by omega)
        have hbl4 : b3 < wr.heap.size := Nat.lt_of_lt_of_le hbl3 hb.size
        clear hc3
        by_cases hz : y = 0
        · subst hz
          have HK : Hid (keptN D.C K (k + 1) = keptN D.C K k) := keptN_no hy.symm
          have HO : Hid ((wr.alloc (.cells #[.int .i64 xa, .string xt] 42)).ownsRow w.heap.size 42 2 (.slice ak (keptN D.C K k).length ck) (keptN D.C K k).length (cellsP (keptN D.C K k))) := hown.alloc _
          clear hy hown hb
          go_wp2
          go_roundw
          case rel => exact ⟨k + 1, ak, ck, by omega, by go_num, by rw [HK.out], by rw [HK.out]; exact HO.out, HB1.out, bx.alloc _, br.alloc _, hlow⟩
          case measure => simp [intOf]; omega
        · have hyz : (y != 0) = true := by simpa using hz
          have HK : Hid (keptN D.C K (k + 1) = keptN D.C K k ++ [(xa, xt)]) := by rw [HX.out]; exact keptN_yes (by rw [← hy]; exact hz)
          have HX1 : Hid (Box wr w.heap.size 27 _) := bx
          have HR1 : Hid (Box wr (w.heap.size + 1) 27 _) := br
          clear hy hz bx br
          go_wp2_with (at_builtin; refine app_any _ rfl (.tmp 27) (.tmp 29) 24 rfl w.heap.size 42 i42 (.agg #[.int .i64 0, .string ⟨#[]⟩]) 2 24 Try.underlying24 hi42 hz420 hz421 hz422 rfl (by omega) (.slice ak (keptN D.C K k).length ck) (keptN D.C K k).length (cellsP (keptN D.C K k)) rfl ((hown.alloc _).alloc _) (some ⟨wr.heap.size + 1, 0, none⟩) 1 1 [.int .i64 xa, .string xt] rfl (fun h => by cases h) rfl (fun ad e => by cases e; exact cell_two _ _ _ _ _) (by intro u hu; simp at hu; rcases hu with rfl | rfl <;> rfl) (by unfold maxLen; omega) (by omega) (by have := hb.size; simp; omega) ?_; intro a' c' w2 ho2 hg2 hk2)
          have hb2 : Below w.heap.size w w2 := ((hb.alloc hb.size _).alloc (by have := hb.size; simp; omega) _).grown hg2 (by have := hb.size; simp; omega) (fun g e => (hown.lt g e).1)
          have hlw : ∀ g, (Value.slice ak (keptN D.C K k).length ck).ownBlock = some g → w.heap.size + 1 < g := fun g e => by rw [ob_slice] at e; exact hlow.out g e
          have x2 : Box w2 w.heap.size 27 _ := ((HX1.out.alloc _).alloc _).grown hg2 (fun e => by have := hlw _ e; omega)
          have y2 : Box w2 (w.heap.size + 1) 27 _ := ((HR1.out.alloc _).alloc _).grown hg2 (fun e => by have := hlw _ e; omega)
          have hlow2 : Hid (∀ g, ob a' = some g → w.heap.size + 1 < g) := fun g e => by
            rcases hk2 g e with h | h
            · exact hlw g h
            · rw [h]; simp; omega
          have ho3 : w2.ownsRow w.heap.size 42 2 (.slice a' (keptN D.C K (k + 1)).length c') (keptN D.C K (k + 1)).length (cellsP (keptN D.C K (k + 1))) := by
            rw [HK.out, cellsP_append, List.length_append]; exact ho2
          have HL : Hid ((keptN D.C K (k + 1)).length = (keptN D.C K k).length + 1) := by unfold Hid; rw [HK.out, List.length_append]; rfl
          clear ho2 hg2 hk2 hlw hlow HX1 HR1
          go_roundw
          case rel => exact ⟨k + 1, a', c', by omega, by go_num, by rw [HL.out], ho3, hb2, x2, y2, hlow2⟩
          case measure => simp [intOf]; omega
      · have HK : Hid (keptN D.C K (k + 1) = keptN D.C K k) := keptN_no (getD_beyond K k (by omega))
        have HO : Hid ((wr.alloc (.cells #[.int .i64 xa, .string xt] 42)).ownsRow w.heap.size 42 2 (.slice ak (keptN D.C K k).length ck) (keptN D.C K k).length (cellsP (keptN D.C K k))) := hown.alloc _
        clear hown hb
        go_wp2
        go_roundw
        case rel => exact ⟨k + 1, ak, ck, by omega, by go_num, by rw [HK.out], by rw [HK.out]; exact HO.out, HB1.out, bx.alloc _, br.alloc _, hlow⟩
        case measure => simp [intOf]; omega
    · have e : k = D.C.length := by omega
      subst e
      obtain ⟨v0, v1, v2, v3⟩ := box4 bx
      have KG : Hid (∀ p ∈ keptN D.C K D.C.length, 0 ≤ p.1 ∧ p.1 < D.S.length) := fun p hp => HG.out p (keptN_mem (Nat.le_refl _) p hp)
      go_wp2_with fail
      refine (c_settled a0 D.S.length c0 ak _ ck false none 0 0 D.S (keptN D.C K D.C.length) wr (R0.out.below hb) (RdP.own hown) Q0.out f0 (by omega) KG.out).mono ?_
      rintro e w5 ⟨⟨a', c', rfl, o, rng⟩, hb5⟩
      have B5 : Hid (Below w.heap.size w w5) := hb.trans (hb5.mono hb.size)
      have R5 := br.belowS hb5
      have o' : w5.ownsRow w.heap.size 9 1 (.slice a' D.S.length c') D.S.length ((settle D.S (keptN D.C K D.C.length)).map Value.string) := o.down hb.size
      have HO5 : Hid (∀ V : World, V.heap.size = w5.heap.size → (∀ g, g ≠ w.heap.size + 1 → V.heap[g]? = w5.heap[g]?) → V.ownsRow w.heap.size 9 1 (.slice a' D.S.length c') D.S.length ((settle D.S (keptN D.C K D.C.length)).map Value.string)) := fun V _ hV => own_same o' fun g e => hV g (by rw [ob_slice] at e; have := (rng g e).1; have := br.lt; omega)
      obtain ⟨y0, y1, y2, y3⟩ := box4 R5
      have z0 := R5.thaw 0
      have z1 := R5.thaw 1
      have z2 := R5.thaw 2
      have z3 := R5.thaw 3
      have HR : Hid (Box w5 (w.heap.size + 1) 27 #[.slice none 0 0, .slice none 0 0, .bool false, .slice none 0 0]) := R5
      clear hb5 o o' rng R5 v0 v1 v2 v3 hown hb bx br
      go_wp2
      refine ret_box1 Try.results51 rfl rfl (put4_box HR.out _ _ _ _) ⟨⟨⟨a', D.S.length, c', none, 0, 0, false, none, 0, 0⟩, rfl, ?_⟩, put4_below B5.out (by omega) _ _ _ _⟩
      exact oneD (HO5.out _ (by simp) (fun g hg => put4_same _ _ _ _ _ _ _ hg))
end Go.Proofs.Ytefbaemcdfmhpaa
