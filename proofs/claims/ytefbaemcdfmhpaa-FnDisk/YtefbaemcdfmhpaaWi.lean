/-
  DiskWrite: the program's.
-/
import Derived.Test.YtefbaemcdfmhpaaWl
namespace Go.Proofs.Ytefbaemcdfmhpaa
open Go Go.RowKit
attribute [local go_sem ↓] Go.wp_at_zero Go.wp_at_succ

/-- A write that is appended to the own list of writes, and stored into the disk at w's end. -/
theorem wr_stage {w V w5 : World} {B E : Nat} {u0 u1 u2 a' : Option Addr} {m0 d0 m1 d1 m2 d2 c' : Nat} {ub : Bool} {D : DD} {x : Int} {s : ByteArray} {z : Array Value}
    (BX : Box V w.heap.size 27 #[.slice u0 m0 d0, .slice u1 m1 d1, .bool ub, .slice u2 m2 d2]) (BR : Box V (w.heap.size + 1) 27 z) (HB : Below w.heap.size w V) (o : OwnD V B E ⟨u0, m0, d0, u1, m1, d1, ub, u2, m2, d2⟩ D) (hE : V.heap.size = E)
    (ho : w5.ownsRow B 42 2 (.slice a' (m1 + 1) c') (m1 + 1) (cellsP D.C ++ [.int .i64 x, .string s])) (hg : (V.alloc (.cells #[.int .i64 x, .string s] 42)).grownBy w5 (Value.slice u1 m1 d1).ownBlock) (hk : ∀ g, ob a' = some g → (Value.slice u1 m1 d1).ownBlock = some g ∨ g = (V.alloc (.cells #[.int .i64 x, .string s] 42)).heap.size)
    (h1 : w.heap.size + 1 < B) :
    ∃ W, w5.setCell ⟨w.heap.size, 1, none⟩ (.slice a' (m1 + 1) c') = W ∧ (Box W (w.heap.size + 1) 27 z ∧ Below w.heap.size w W ∧ OwnD W B W.heap.size ⟨u0, m0, d0, a', m1 + 1, c', ub, u2, m2, d2⟩ (wrD D x s)) ∧ w5.cell? ⟨w.heap.size, 1, none⟩ = some (.slice u1 m1 d1) ∧ w5.frozen? ⟨w.heap.size, 1, none⟩ = false ∧ Box W w.heap.size 27 #[.slice u0 m0 d0, .slice a' (m1 + 1) c', .bool ub, .slice u2 m2 d2] := by
  obtain ⟨o1, o2, o3, o4, o5, o6, o7, o8⟩ := o
  have hlw : ∀ g, (Value.slice u1 m1 d1).ownBlock = some g → B ≤ g ∧ g < E ∧ ob u2 ≠ some g := fun g e => by rw [ob_slice] at e; exact o7 g e
  have x5 := (BX.alloc (.cells #[.int .i64 x, .string s] 42)).grown hg (fun e => by have := hlw _ e; omega)
  have y5 := (BR.alloc (.cells #[.int .i64 x, .string s] 42)).grown hg (fun e => by have := hlw _ e; omega)
  have b5 : Below w.heap.size w w5 := (HB.alloc HB.size (.cells #[.int .i64 x, .string s] 42)).grown hg (by have := HB.size; simp; omega) (fun k e => by have := hlw k e; omega)
  have hs : V.heap.size < w5.heap.size := by have := hg.size; simp at this; omega
  have same : ∀ g, g < V.heap.size → ob u1 ≠ some g → g ≠ w.heap.size → (w5.setCell ⟨w.heap.size, 1, none⟩ (.slice a' (m1 + 1) c')).heap[g]? = V.heap[g]? := fun g h1 h2 h3 => by
    rw [Below.heap_setCell _ _ _ _ h3]
    exact (hg.block g (by simp; omega) (fun e => h2 (by rw [← ob_slice u1 m1 d1]; exact e.symm))).trans (Below.heap_alloc _ _ _ h1)
  have ra : ∀ g, ob a' = some g → B ≤ g ∧ g < w5.heap.size ∧ (ob u1 = some g ∨ V.heap.size < g) := fun g e => by
    have hl := ho.lt g (by rw [ob_slice]; exact e)
    refine ⟨hl.1, hl.2, ?_⟩
    rcases hk g e with h | h
    · left; rw [ob_slice] at h; exact h
    · right; rw [h]; simp
  refine ⟨_, rfl, ⟨y5.setOther _ _ (show w.heap.size + 1 ≠ w.heap.size by omega), b5.setCell (Nat.le_refl _) _, o1, ?_, ?_, ?_, Nat.le_refl _, fun g e => ?_, fun g e => ?_, fun g e => ?_⟩, x5.cell 1, x5.thaw 1, ?_⟩
  · refine own_same o2 fun g e => ?_
    rw [ob_slice] at e
    have := o6 g e
    exact same g (by have := this.2.1; omega) this.2.2.1 (by omega)
  · show (w5.setCell _ _).ownsRow B 42 2 _ _ (cellsP (D.C ++ [(x, s)]))
    rw [cellsP_append]
    refine own_same ho fun g e => ?_
    rw [ob_slice] at e
    exact Below.heap_setCell _ _ _ _ (show g ≠ w.heap.size by have := ra g e; omega)
  · refine own_same o4 fun g e => ?_
    rw [ob_slice] at e
    have := o8 g e
    exact same g (by have := this.2; omega) (fun e' => (o7 g e').2.2 e) (by omega)
  · have h := o6 g e
    refine ⟨h.1, by have := h.2.1; simp; omega, fun e' => ?_, h.2.2.2⟩
    rcases (ra g e').2.2 with h' | h'
    · exact h.2.2.1 h'
    · have := h.2.1; omega
  · have h := ra g e
    refine ⟨h.1, by have := h.2.1; simp; omega, fun e' => ?_⟩
    rcases h.2.2 with h' | h'
    · exact (o7 g h').2.2 e'
    · have := (o8 g e').2; omega
  · have h := o8 g e
    exact ⟨h.1, by have := h.2; simp; omega⟩
  · have := x5.set 1 (.slice a' (m1 + 1) c')
    simpa using this

set_option maxHeartbeats 4000000 in
theorem c_implWrite2 (D : DD) (x : Int) (s : ByteArray) (hf : Fit D) (hs : s.size ≤ 1048576) (w : World) (h : HD) (r : RdD w h D) (hk : HOK h) :
    Calls Try.prog 15 #[.agg #[.slice h.a0 h.n0 h.c0, .slice h.a1 h.n1 h.c1, .bool h.b, .slice h.a2 h.n2 h.c2], .int .i64 x, .string s] w fun e w' => (∃ h' : HD, e = .returned (.tuple #[.agg #[.slice h'.a0 h'.n0 h'.c0, .slice h'.a1 h'.n1 h'.c1, .bool h'.b, .slice h'.a2 h'.n2 h'.c2], .int .i64 (wrC D x s)]) ∧ OwnD w' w.heap.size w'.heap.size h' (wrR D x s)) ∧ Below w.heap.size w w' := by
  have k0 := r.l0
  have k1 := r.l1
  have F : Hid (Fit D) := hf
  have R : Hid (RdD w h D) := r
  have HK : Hid (HOK h) := hk
  have HB : Hid (Below w.heap.size w ((w.alloc (.cells #[.slice h.a0 h.n0 h.c0, .slice h.a1 h.n1 h.c1, .bool h.b, .slice h.a2 h.n2 h.c2] 27)).alloc (.cells #[.slice none 0 0, .slice none 0 0, .bool false, .slice none 0 0] 27))) := ((Below.refl _ _).alloc (Nat.le_refl _) _).alloc (by simp) _
  have BX : Hid (Box ((w.alloc (.cells #[.slice h.a0 h.n0 h.c0, .slice h.a1 h.n1 h.c1, .bool h.b, .slice h.a2 h.n2 h.c2] 27)).alloc (.cells #[.slice none 0 0, .slice none 0 0, .bool false, .slice none 0 0] 27)) w.heap.size 27 #[.slice h.a0 h.n0 h.c0, .slice h.a1 h.n1 h.c1, .bool h.b, .slice h.a2 h.n2 h.c2]) := (Box.new _ _ _).alloc _
  have BR : Hid (Box ((w.alloc (.cells #[.slice h.a0 h.n0 h.c0, .slice h.a1 h.n1 h.c1, .bool h.b, .slice h.a2 h.n2 h.c2] 27)).alloc (.cells #[.slice none 0 0, .slice none 0 0, .bool false, .slice none 0 0] 27)) (w.heap.size + 1) 27 #[.slice none 0 0, .slice none 0 0, .bool false, .slice none 0 0]) := Box.new2 _ _ _ _
  clear r hk hf
  by_cases hlong : 65536 < s.size
  · have E1 : Hid (wrR D x s = eD) := by unfold Hid wrR; rw [if_pos hlong]
    have E2 : Hid (wrC D x s = 2) := by unfold Hid wrC; rw [if_pos hlong]
    go_enter Try.func15, Try.ntmps15
    go_wp2
    refine ret_box2 (v := .int .i64 2) Try.results15 rfl rfl rfl BR.out ⟨⟨⟨none, 0, 0, none, 0, 0, false, none, 0, 0⟩, by rw [E2.out], by rw [E1.out]; exact own_eD _ _⟩, HB.out⟩
  · go_enter Try.func15, Try.ntmps15
    go_wp2_with fail
    refine (c_implOK h D _ (R.out.below HB.out) F.out).mono ?_
    rintro e w1 ⟨rfl, hb⟩
    have B1 : Hid (Below w.heap.size w w1) := HB.out.trans (hb.mono HB.out.size)
    have x1 := BX.out.belowS hb
    have y1 := BR.out.belowS hb
    have l1 := y1.lt
    obtain ⟨v0, v1, v2, v3⟩ := box4 x1
    obtain ⟨y0, yy1, y2, y3⟩ := box4 y1
    have z0 := y1.thaw 0
    have z1 := y1.thaw 1
    have z2 := y1.thaw 2
    have z3 := y1.thaw 3
    have BX1 : Hid (Box w1 w.heap.size 27 #[.slice h.a0 h.n0 h.c0, .slice h.a1 h.n1 h.c1, .bool h.b, .slice h.a2 h.n2 h.c2]) := x1
    have BR1 : Hid (Box w1 (w.heap.size + 1) 27 #[.slice none 0 0, .slice none 0 0, .bool false, .slice none 0 0]) := y1
    have s1 : w.heap.size ≤ w1.heap.size := B1.out.size
    clear x1 y1 hb HB BX BR
    cases hok : okD D
    · have E1 : Hid (wrR D x s = eD) := by unfold Hid wrR; rw [if_neg hlong, if_neg (by rw [hok]; decide)]
      have E2 : Hid (wrC D x s = 1) := by unfold Hid wrC; rw [if_neg hlong, if_neg (by rw [hok]; decide)]
      clear hok
      go_wp2
      refine ret_box2 (v := .int .i64 1) Try.results15 rfl rfl rfl (put4_box BR1.out _ _ _ _) ⟨⟨⟨none, 0, 0, none, 0, 0, false, none, 0, 0⟩, by rw [E2.out], by rw [E1.out]; exact own_eD _ _⟩, put4_below B1.out (by omega) _ _ _ _⟩
    · have hlen := ok_len hok
      have E0 : Hid (wrR D x s = (if wrBad D x s = true then eD else if D.C.length = 500 then D else wrD D x s)) := by unfold Hid wrR; rw [if_neg hlong, if_pos hok]
      have E9 : Hid (wrC D x s = (if wrBad D x s = true then 4 else if D.C.length = 500 then 7 else 0)) := by unfold Hid wrC; rw [if_neg hlong, if_pos hok]
      clear hok
      obtain ⟨t, ht⟩ : ∃ t, t = decide (0 ≤ x ∧ x < (h.n0 : Int)) := ⟨_, rfl⟩
      have HT : Hid (t = decide (0 ≤ x ∧ x < (h.n0 : Int))) := ht
      clear ht
      have R1 : Hid (RdD w1 h D) := R.out.below B1.out
      go_wp2_with fail
      refine (c_has h.a0 h.n0 h.c0 h.a1 h.n1 h.c1 h.b h.a2 h.n2 h.c2 x w1).mono ?_
      rintro e w2 ⟨rfl, hb⟩
      rw [← HT.out]
      have B2 : Hid (Below w.heap.size w w2) := B1.out.trans (hb.mono B1.out.size)
      have R2 : Hid (RdD w2 h D) := R1.out.below hb
      have BX2 : Hid (Box w2 w.heap.size 27 #[.slice h.a0 h.n0 h.c0, .slice h.a1 h.n1 h.c1, .bool h.b, .slice h.a2 h.n2 h.c2]) := BX1.out.belowS hb
      have BR2 : Hid (Box w2 (w.heap.size + 1) 27 #[.slice none 0 0, .slice none 0 0, .bool false, .slice none 0 0]) := BR1.out.belowS hb
      have s12 : w1.heap.size ≤ w2.heap.size := hb.size
      clear y0 yy1 y2 y3 z0 z1 z2 z3 v0 v1 v2 v3 hb BX1 BR1 B1 R1
      obtain ⟨v0, v1, v2, v3⟩ := box4 BX2.out
      obtain ⟨y0, yy1, y2, y3⟩ := box4 BR2.out
      have z0 := BR2.out.thaw 0
      have z1 := BR2.out.thaw 1
      have z2 := BR2.out.thaw 2
      have z3 := BR2.out.thaw 3
      cases t
      · have HBAD : Hid (wrBad D x s = true) := by unfold Hid wrBad; rw [k0, ← HT.out]; rfl
        have E1 : Hid (wrR D x s = eD) := by unfold Hid; rw [E0.out, if_pos HBAD.out]
        have E2 : Hid (wrC D x s = 4) := by unfold Hid; rw [E9.out, if_pos HBAD.out]
        clear E0 E9
        go_wp2
        refine ret_box2 (v := .int .i64 4) Try.results15 rfl rfl rfl (put4_box BR2.out _ _ _ _) ⟨⟨⟨none, 0, 0, none, 0, 0, false, none, 0, 0⟩, by rw [E2.out], by rw [E1.out]; exact own_eD _ _⟩, put4_below B2.out (by omega) _ _ _ _⟩
      · by_cases hbig : 160 < s.size
        · have HBAD : Hid (wrBad D x s = true) := by unfold Hid wrBad; rw [decide_eq_true hbig, Bool.or_true]
          have E1 : Hid (wrR D x s = eD) := by unfold Hid; rw [E0.out, if_pos HBAD.out]
          have E2 : Hid (wrC D x s = 4) := by unfold Hid; rw [E9.out, if_pos HBAD.out]
          clear E0 E9
          go_wp2
          refine ret_box2 (v := .int .i64 4) Try.results15 rfl rfl rfl (put4_box BR2.out _ _ _ _) ⟨⟨⟨none, 0, 0, none, 0, 0, false, none, 0, 0⟩, by rw [E2.out], by rw [E1.out]; exact own_eD _ _⟩, put4_below B2.out (by omega) _ _ _ _⟩
        · have HBAD : Hid (¬ wrBad D x s = true) := by unfold Hid wrBad; rw [k0, ← HT.out, decide_eq_false hbig]; decide
          go_wp2_with fail
          refine (c_copyDisk h D w2 R2.out HK.out F.out).mono ?_
          rintro e w3 ⟨⟨⟨u0, m0, d0, u1, m1, d1, ub, u2, m2, d2⟩, rfl, o⟩, hb⟩
          have hm1 : D.C.length = m1 := o.rd.l1
          have B3 : Below w.heap.size w w3 := B2.out.trans (hb.mono B2.out.size)
          have x3 := BX2.out.belowS hb
          have yy := BR2.out.belowS hb
          have L3 : w2.heap.size ≤ w3.heap.size := hb.size
          clear y0 yy1 y2 y3 z0 z1 z2 z3 v0 v1 v2 v3 hb
          obtain ⟨v0, v1, v2, v3⟩ := box4 x3
          have z0 := x3.thaw 0
          have z1 := x3.thaw 1
          have z2 := x3.thaw 2
          have z3 := x3.thaw 3
          obtain ⟨V, hV⟩ : ∃ V, (((w3.setCell ⟨w.heap.size, 0, none⟩ (.slice u0 m0 d0)).setCell ⟨w.heap.size, 1, none⟩ (.slice u1 m1 d1)).setCell ⟨w.heap.size, 2, none⟩ (.bool ub)).setCell ⟨w.heap.size, 3, none⟩ (.slice u2 m2 d2) = V := ⟨_, rfl⟩
          have xV := put4_box x3 (.slice u0 m0 d0) (.slice u1 m1 d1) (.bool ub) (.slice u2 m2 d2)
          have KV := fun g (hg : g ≠ w.heap.size) => put4_same w3 w.heap.size g (.slice u0 m0 d0) (.slice u1 m1 d1) (.bool ub) (.slice u2 m2 d2) hg
          have BV := put4_below B3 (Nat.le_refl _) (.slice u0 m0 d0) (.slice u1 m1 d1) (.bool ub) (.slice u2 m2 d2)
          have SV : V.heap.size = w3.heap.size := by rw [← hV]; simp
          rw [hV] at xV BV
          simp only [hV] at KV
          have yV : Box V (w.heap.size + 1) 27 _ := (KV _ (by omega)).trans yy
          have HO : Hid (OwnD V w2.heap.size w3.heap.size ⟨u0, m0, d0, u1, m1, d1, ub, u2, m2, d2⟩ D) := o.same (by omega) fun g h1 h2 => KV g (by omega)
          have HX : Hid (Box V w.heap.size 27 _) := xV
          have HY : Hid (Box V (w.heap.size + 1) 27 #[.slice none 0 0, .slice none 0 0, .bool false, .slice none 0 0]) := yV
          have HBV : Hid (Below w.heap.size w V) := BV
          have HSV : Hid (V.heap.size = w3.heap.size) := SV
          have lV := xV.lt
          have lY := yV.lt
          obtain ⟨t0, t1, t2, t3⟩ := box4 xV
          obtain ⟨y0, yy1, y2, y3⟩ := box4 yV
          have r0 := yV.thaw 0
          have r1 := yV.thaw 1
          have r2 := yV.thaw 2
          have r3 := yV.thaw 3
          have g1 := xV.thaw 1
          clear x3 yy xV yV KV BV SV o B3
          by_cases hfull : m1 = 500
          · have E1 : Hid (wrR D x s = D) := by unfold Hid; rw [E0.out, if_neg HBAD.out, if_pos (by omega)]
            have E2 : Hid (wrC D x s = 7) := by unfold Hid; rw [E9.out, if_neg HBAD.out, if_pos (by omega)]
            have hfi : ((m1 : Int) == 500) = true := by simp; omega
            clear E0 E9 hfull hm1
            go_wp2
            refine ret_box2 (v := .int .i64 7) Try.results15 rfl rfl rfl (put4_box HY.out _ _ _ _) ⟨⟨⟨u0, m0, d0, u1, m1, d1, ub, u2, m2, d2⟩, by rw [E2.out], by rw [E1.out]; exact HO.out.put (by omega) (by simp) (by omega) (fun g hg => put4_same _ _ _ _ _ _ _ hg)⟩, put4_below HBV.out (by omega) _ _ _ _⟩
          · have E1 : Hid (wrR D x s = wrD D x s) := by unfold Hid; rw [E0.out, if_neg HBAD.out, if_neg (by omega)]
            have E2 : Hid (wrC D x s = 0) := by unfold Hid; rw [E9.out, if_neg HBAD.out, if_neg (by omega)]
            have hfi : ((m1 : Int) == 500) = false := by simp; omega
            have hm5 : m1 ≤ 500 := by omega
            obtain ⟨i42, hi42, hz420, hz421, hz422⟩ := info_parts info42
            clear E0 E9 hfull hm1
            go_wp2_with (first
              | (at_builtin; refine app_any _ rfl (.tmp 34) (.tmp 38) 24 rfl w2.heap.size 42 i42 (.agg #[.int .i64 0, .string ⟨#[]⟩]) 2 24 Try.underlying24 hi42 hz420 hz421 hz422 rfl (by omega) (.slice u1 m1 d1) m1 (cellsP D.C) rfl (HO.out.2.2.1.alloc _) (some ⟨V.heap.size, 0, none⟩) 1 1 [.int .i64 x, .string s] rfl (fun h => by cases h) rfl (fun ad e => by cases e; exact cell_two1 _ _ _ _) (by intro u hu; simp at hu; rcases hu with rfl | rfl <;> rfl) (by unfold maxLen; omega) (by omega) (by have := HSV.out; simp; omega) ?_
                 intro a' c' w5 ho hg hkk
                 obtain ⟨W, hW, HR, s5, s6, vv⟩ := wr_stage HX.out HY.out HBV.out HO.out HSV.out ho hg hkk (by omega)
                 obtain ⟨v0, v1, v2, v3⟩ := box4 vv
                 have HYW : Hid (Box W (w.heap.size + 1) 27 #[.slice none 0 0, .slice none 0 0, .bool false, .slice none 0 0]) := HR.1
                 have HBW : Hid (Below w.heap.size w W) := HR.2.1
                 have HOW : Hid (OwnD W w2.heap.size W.heap.size ⟨u0, m0, d0, a', m1 + 1, c', ub, u2, m2, d2⟩ (wrD D x s)) := HR.2.2
                 clear y0 yy1 y2 y3 r0 r1 r2 r3
                 obtain ⟨y0, yy1, y2, y3⟩ := box4 HR.1
                 have r0 := HR.1.thaw 0
                 have r1 := HR.1.thaw 1
                 have r2 := HR.1.thaw 2
                 have r3 := HR.1.thaw 3
                 clear ho hg hkk HR vv))
            refine ret_box2 (v := .int .i64 0) Try.results15 rfl rfl rfl (put4_box HYW.out _ _ _ _) ⟨⟨⟨u0, m0, d0, a', m1 + 1, c', ub, u2, m2, d2⟩, by rw [E2.out], by rw [E1.out]; exact HOW.out.put (by omega) (by simp) (by omega) (fun g hg => put4_same _ _ _ _ _ _ _ hg)⟩, put4_below HBW.out (by omega) _ _ _ _⟩
end Go.Proofs.Ytefbaemcdfmhpaa
