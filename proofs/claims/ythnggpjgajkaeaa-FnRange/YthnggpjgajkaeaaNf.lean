/-
  TreeRange, of the program and of the specification.
-/
import Derived.Test.YthnggpjgajkaeaaNe
namespace Go.Proofs.Ythnggpjgajkaeaa
open Go Go.RowKit
attribute [local go_sem ↓] Go.wp_at_zero Go.wp_at_succ

/-- The keys that are told, and the code. -/
def RangeIs (L : List ND) (ro : Int) (fr to : ByteArray) (R : List ByteArray) (c : Int) : Prop := ((65536 < fr.size ∨ 65536 < to.size) ∧ R = [] ∧ c = 2) ∨ (fr.size ≤ 65536 ∧ to.size ≤ 65536 ∧ ¬ TG L ro ∧ R = [] ∧ c = 1) ∨ (fr.size ≤ 65536 ∧ to.size ≤ 65536 ∧ ∃ ks f d, TGood L ro ks f d ∧ R = rgL fr to (allT ks f) ∧ c = 0)
theorem RangeIs.uniq {L : List ND} {ro : Int} {fr to : ByteArray} {R R' : List ByteArray} {c c' : Int} (h : RangeIs L ro fr to R c) (h' : RangeIs L ro fr to R' c') : R' = R ∧ c' = c := by
  rcases h with ⟨h1, rfl, rfl⟩ | ⟨h1, h2, h3, rfl, rfl⟩ | ⟨h1, h2, ks, f, d, g, rfl, rfl⟩ <;> rcases h' with ⟨k1, rfl, rfl⟩ | ⟨k1, k2, k3, rfl, rfl⟩ | ⟨k1, k2, ks', f', d', g', rfl, rfl⟩
  all_goals first
    | exact ⟨rfl, rfl⟩
    | (exfalso; omega)
    | exact absurd ⟨ks', f', d', g'⟩ h3
    | exact absurd ⟨ks, f, d, g⟩ k3
    | exact ⟨by rw [g.keysUniq g'], rfl⟩
def AnsRg (L : List ND) (ro : Int) (fr to : ByteArray) (w : World) (e : Ending) (w' : World) : Prop := ∃ (a : Option Addr) (m cp : Nat) (R : List ByteArray) (c : Int), e = .returned (.tuple #[.slice a m cp, .int .i64 c]) ∧ R.length = m ∧ m ≤ 1000 ∧ w'.ownsRow w.heap.size 9 1 (.slice a m cp) m (R.map Value.string) ∧ RangeIs L ro fr to R c ∧ Below w.heap.size w w'
set_option maxRecDepth 100000 in
set_option maxHeartbeats 8000000 in
theorem c_implRange (ro : Int) (la : Option Addr) (ln lc : Nat) (vs : List TNode) (fr to : ByteArray) (w : World) (hr : RdN w la ln vs) (hn : ln ≤ 1048576) (hf : ∀ i, i < ln → FitN (vs.getD i zeroN)) (hnil : ∀ i, i < ln → (vs.getD i zeroN).ka = none → (vs.getD i zeroN).kc = 0) (hf1 : fr.size ≤ 1048576) (ht1 : to.size ≤ 1048576) :
    Calls Try.prog 16 #[.agg #[.int .i64 ro, .slice la ln lc], .string fr, .string to] w fun e w' => AnsRg (vs.map saysN) ro fr to w e w' := by
  obtain ⟨V, hV⟩ : ∃ Q, w.alloc (.cells #[.int .i64 ro, .slice la ln lc] 27) = Q := ⟨_, rfl⟩
  have bV : Below w.heap.size w V := by rw [← hV]; exact (Below.refl _ _).alloc (Nat.le_refl _) _
  have XV : Hid (Box V w.heap.size 27 #[.int .i64 ro, .slice la ln lc]) := by unfold Hid; rw [← hV]; exact Box.new _ _ _
  have x0 : V.cell? ⟨w.heap.size, 0, none⟩ = some (.int .i64 ro) := XV.out.cell 0
  have x1 : V.cell? ⟨w.heap.size, 1, none⟩ = some (.slice la ln lc) := XV.out.cell 1
  have BV : Hid (Below w.heap.size w V) := bV
  have C := c_rootOf ro la ln lc vs V (hr.below bV) hn hf hnil
  clear hr hf hnil bV
  by_cases h1 : 65536 < fr.size
  · have HA : Hid (RangeIs (vs.map saysN) ro fr to [] 2) := .inl ⟨.inl h1, rfl, rfl⟩
    go_enter Try.func16, Try.ntmps16
    go_wp2
    go_ret2
    exact ⟨none, 0, 0, [], 2, rfl, rfl, by omega, World.ownsRow_nil _ _ _ _, HA.out, BV.out⟩
  · by_cases h2 : 65536 < to.size
    · have HA : Hid (RangeIs (vs.map saysN) ro fr to [] 2) := .inl ⟨.inr h2, rfl, rfl⟩
      go_enter Try.func16, Try.ntmps16
      go_wp2
      go_ret2
      exact ⟨none, 0, 0, [], 2, rfl, rfl, by omega, World.ownsRow_nil _ _ _ _, HA.out, BV.out⟩
    · go_enter Try.func16, Try.ntmps16
      go_wp2_with fail
      refine C.mono ?_
      rintro e w1 ⟨hans, hb1⟩
      have B1 : Hid (Below w.heap.size w w1) := BV.out.trans (hb1.mono BV.out.size)
      clear hb1 C hV x0 x1
      rcases hans with ⟨rfl, hno⟩ | ⟨p, ks, f, d, A, rfl, hg, hrd⟩
      · have HA : Hid (RangeIs (vs.map saysN) ro fr to [] 1) := .inr (.inl ⟨by omega, by omega, hno, rfl, rfl⟩)
        clear hno
        go_wp2
        go_ret2
        exact ⟨none, 0, 0, [], 1, rfl, rfl, by omega, World.ownsRow_nil _ _ _ _, HA.out, B1.out⟩
      · have q := hg.size
        have CW := c_within fr to 201 (by omega) f ks A p w1 q.1 hrd q.2.1 q.2.2.1 q.2.2.2 hg.sig hg.keys.rise
        have hl1 := rg_len fr to (allT ks f)
        have hl2 := allT_len (ks := ks) q.2.1 q.2.2.1
        have hl3 := q.1
        obtain ⟨R, hR⟩ : ∃ R, rgL fr to (allT ks f) = R := ⟨_, rfl⟩
        have HA : Hid (RangeIs (vs.map saysN) ro fr to R 0) := .inr (.inr ⟨by omega, by omega, ks, f, d, hg, hR.symm, rfl⟩)
        rw [hR] at CW hl1
        obtain ⟨m, hm⟩ : ∃ m, R.length = m := ⟨_, rfl⟩
        have HM : Hid (R.length = m) := hm
        rw [hm] at CW hl1
        have hm9 : m ≤ 1000 := by omega
        clear hg hrd q hR hm hl1 hl2 hl3
        go_wp2_with fail
        refine CW.mono ?_
        rintro e w2 ⟨⟨a', c', rfl, o'⟩, hb⟩
        have O' : Hid (w2.ownsRow w.heap.size 9 1 (.slice a' m c') m (R.map Value.string)) := o'.down B1.out.size
        have B2 : Hid (Below w.heap.size w w2) := B1.out.trans (hb.mono B1.out.size)
        clear o' hb CW
        go_wp2
        go_ret2
        exact ⟨a', m, c', R, 0, rfl, HM.out, hm9, O'.out, HA.out, B2.out⟩
set_option maxRecDepth 100000 in
set_option maxHeartbeats 8000000 in
theorem c_specRange (ro : Int) (la : Option Addr) (ln lc : Nat) (vs : List TNode) (fr to : ByteArray) (w : World) (hr : RdN w la ln vs) (hn : ln ≤ 1048576) (hf : ∀ i, i < ln → FitN (vs.getD i zeroN)) (hnil : ∀ i, i < ln → (vs.getD i zeroN).ka = none → (vs.getD i zeroN).kc = 0) (hf1 : fr.size ≤ 1048576) (ht1 : to.size ≤ 1048576) :
    Calls Try.prog 32 #[.agg #[.int .i64 ro, .slice la ln lc], .string fr, .string to] w fun e w' => AnsRg (vs.map saysN) ro fr to w e w' := by
  obtain ⟨V, hV⟩ : ∃ Q, w.alloc (.cells #[.int .i64 ro, .slice la ln lc] 27) = Q := ⟨_, rfl⟩
  have bV : Below w.heap.size w V := by rw [← hV]; exact (Below.refl _ _).alloc (Nat.le_refl _) _
  have XV : Hid (Box V w.heap.size 27 #[.int .i64 ro, .slice la ln lc]) := by unfold Hid; rw [← hV]; exact Box.new _ _ _
  have x0 : V.cell? ⟨w.heap.size, 0, none⟩ = some (.int .i64 ro) := XV.out.cell 0
  have x1 : V.cell? ⟨w.heap.size, 1, none⟩ = some (.slice la ln lc) := XV.out.cell 1
  have BV : Hid (Below w.heap.size w V) := bV
  have C := c_l09Walk ro la ln lc vs V (hr.below bV) hn hf hnil
  clear hr hf hnil bV
  by_cases h1 : 65536 < fr.size
  · have HA : Hid (RangeIs (vs.map saysN) ro fr to [] 2) := .inl ⟨.inl h1, rfl, rfl⟩
    go_enter Try.func32, Try.ntmps32
    go_wp2
    go_ret2
    exact ⟨_, 0, 0, [], 2, rfl, rfl, by omega, own_empty BV.out.size, HA.out, BV.out.alloc BV.out.size _⟩
  · by_cases h2 : 65536 < to.size
    · have HA : Hid (RangeIs (vs.map saysN) ro fr to [] 2) := .inl ⟨.inr h2, rfl, rfl⟩
      go_enter Try.func32, Try.ntmps32
      go_wp2
      go_ret2
      exact ⟨_, 0, 0, [], 2, rfl, rfl, by omega, own_empty BV.out.size, HA.out, BV.out.alloc BV.out.size _⟩
    · go_enter Try.func32, Try.ntmps32
      go_wp2_with fail
      refine C.mono ?_
      rintro e w1 ⟨ya, n, yc, K, d, okb, rfl, hkl, hk1, ho, h3, h4, hb1⟩
      have B1 : Hid (Below w.heap.size w w1) := BV.out.trans (hb1.mono BV.out.size)
      have HR : Hid (RdV w1 ya n (K.map Value.string)) := RdV.own ho
      have HKN : Hid (K.length = n) := hkl
      have H3 : Hid (okb = true ↔ TG (vs.map saysN) ro) := h3
      have H4 : Hid (okb = true → ∃ ks f, TGood (vs.map saysN) ro ks f d ∧ K = allT ks f) := h4
      clear hb1 C hV x0 x1 ho h3 h4 hkl
      cases okb
      · have HA : Hid (RangeIs (vs.map saysN) ro fr to [] 1) := .inr (.inl ⟨by omega, by omega, fun h => (by have := H3.out.2 h; cases this), rfl, rfl⟩)
        clear H3 H4
        go_wp2
        go_ret2
        exact ⟨_, 0, 0, [], 1, rfl, rfl, by omega, own_empty B1.out.size, HA.out, B1.out.alloc B1.out.size _⟩
      · have HA : Hid (RangeIs (vs.map saysN) ro fr to (rgL fr to K) 0) := by
          obtain ⟨ks, f, g, e⟩ := H4.out rfl
          exact .inr (.inr ⟨by omega, by omega, ks, f, d, g, by rw [e], rfl⟩)
        clear H3 H4
        obtain ⟨i0, hi, hz0, hz1, hz2⟩ := info_parts infoS
        obtain ⟨W, hW⟩ : ∃ W, w1.alloc (.cells #[] 9) = W := ⟨_, rfl⟩
        have bW : Below w1.heap.size w1 W := by rw [← hW]; exact (Below.refl _ _).alloc (Nat.le_refl _) _
        have OW0 : Hid (W.ownsRow w.heap.size 9 1 (.slice (some ⟨w1.heap.size, 0, none⟩) 0 0) 0 []) := by unfold Hid; rw [← hW]; exact World.ownsRow_lit w1 #[] 0 B1.out.size (by unfold maxLen; omega) rfl
        have BW0 : Hid (Below w.heap.size w W) := B1.out.trans (bW.mono B1.out.size)
        have HRW : Hid (RdV W ya n (K.map Value.string)) := HR.out.below bW
        have SW0 : Hid (w1.heap.size ≤ W.heap.size) := bW.size
        clear bW
        go_wp2
        clear hW
        go_loopw [11, 12] (fun o i wr => ∃ (k : Nat) (a' : Option Addr) (c' m : Nat), k ≤ n ∧ i = .int .i64 k ∧ o = .slice a' m c' ∧ Hid ((rgL fr to (K.take k)).length = m) ∧ Hid (wr.ownsRow w.heap.size 9 1 (.slice a' m c') m ((rgL fr to (K.take k)).map Value.string)) ∧ Hid (RdV wr ya n (K.map Value.string)) ∧ Hid (Below w.heap.size w wr) ∧ Hid (∀ g, ob a' = some g → w1.heap.size ≤ g) ∧ Hid (∀ g, ob ya = some g → 0 < n → g < w1.heap.size) ∧ Hid (w1.heap.size ≤ wr.heap.size)) (fun _ i _ => n - (intOf i).toNat)
        case atStart => exact ⟨0, _, 0, 0, by omega, rfl, rfl, rfl, OW0.out, HRW.out, BW0.out, fun g e => by cases e; exact Nat.le_refl _, fun g e hn0 => by obtain ⟨b, off, e', hl, _⟩ := HR.out.2 hn0; rw [e'] at e; cases e; exact hl, SW0.out⟩
        case round =>
          obtain ⟨k, a1, c1, m1, hk, rfl, rfl, HM, OW, RW, BW, HAB, HYB, HS1⟩ := hrel
          by_cases hlt : k < n
          · obtain ⟨b, off, hya, hbl, hc⟩ := RW.out.2 (by omega)
            obtain ⟨y, hy⟩ : ∃ y, K.getD k zS = y := ⟨_, rfl⟩
            subst hya
            have e0 : wr.cell? ⟨b, off + k, none⟩ = some (.string y) := by rw [hc k hlt, ← hy]; exact map_get _ _ _ _ (by rw [HKN.out]; exact hlt)
            have HT : Hid (rgL fr to (K.take (k + 1)) = rgL fr to (K.take k) ++ (if rgB fr to y then [y] else [])) := by unfold Hid; rw [rg_take (by rw [HKN.out]; exact hlt), hy]
            have hm1 : m1 ≤ n := by have h1 := rg_len fr to (K.take k); rw [HM.out, List.length_take, HKN.out] at h1; omega
            have g1 : (0 : Int) ≤ (k : Int) := by omega
            have g2 : (k : Int) < (n : Int) := by omega
            clear hc hy
            cases hx : Op.bytesLess y.toList fr.toList
            · cases hu : Op.bytesLess y.toList to.toList
              · have HT' : Hid (rgL fr to (K.take (k + 1)) = rgL fr to (K.take k)) := by unfold Hid; rw [HT.out]; unfold rgB; rw [hx, hu]; simp
                go_wp2
                go_roundw
                case rel => exact ⟨k + 1, a1, c1, m1, by omega, by go_num, rfl, by unfold Hid; rw [HT'.out]; exact HM.out, by unfold Hid; rw [HT'.out]; exact OW.out, RW.out, BW.out, HAB.out, HYB.out, HS1.out⟩
                case measure => simp [intOf]; omega
              · have HT' : Hid (rgL fr to (K.take (k + 1)) = rgL fr to (K.take k) ++ [y]) := by unfold Hid; rw [HT.out]; unfold rgB; rw [hx, hu]; simp
                obtain ⟨V5, hV5⟩ : ∃ V, wr.alloc (.cells #[.string y] 9) = V := ⟨_, rfl⟩
                have bV5 : Below wr.heap.size wr V5 := by rw [← hV5]; exact (Below.refl _ _).alloc (Nat.le_refl _) _
                have OV : Hid (V5.ownsRow w.heap.size 9 1 (.slice a1 m1 c1) m1 ((rgL fr to (K.take k)).map Value.string)) := own_below OW.out bV5
                have BV5 : Hid (Below w.heap.size w V5) := BW.out.trans (bV5.mono BW.out.size)
                have CV : Hid (V5.cell? ⟨wr.heap.size, 0, none⟩ = some (.string y)) := by unfold Hid; rw [← hV5]; exact (Box.new _ _ _).cell 0
                have RV5 : Hid (RdV V5 (some ⟨b, off, none⟩) n (K.map Value.string)) := RW.out.below bV5
                have sV := BV5.out.size
                have HSZ : Hid (wr.heap.size ≤ V5.heap.size) := bV5.size
                clear bV5
                go_wp2_with (at_builtin; refine app_any _ rfl (.tmp 52) (.tmp 57) 23 rfl w.heap.size 9 i0 (.string ⟨#[]⟩) 1 16 Try.underlying23 hi hz0 hz1 hz2 rfl (by omega) (.slice a1 m1 c1) m1 ((rgL fr to (K.take k)).map Value.string) rfl OV.out (some ⟨wr.heap.size, 0, none⟩) 1 1 [.string y] rfl (fun h => by cases h) rfl (fun ad e => by cases e; intro k u hu; cases k with | zero => (cases hu; exact CV.out) | succ k => simp at hu) (by intro u hu; simp at hu; subst hu; rfl) (by unfold maxLen; omega) (by omega) sV ?_; intro a5 c5 w5 ho5 hg5 hx5)
                have O5 : Hid (w5.ownsRow w.heap.size 9 1 (.slice a5 (m1 + 1) c5) (m1 + 1) ((rgL fr to (K.take (k + 1))).map Value.string)) := by unfold Hid; rw [HT'.out, List.map_append]; exact ho5
                have B5 : Hid (Below w.heap.size w w5) := BV5.out.grown hg5 BV5.out.size (fun g hg => by
                  rcases own_form OV.out with ⟨h1, _⟩ | ⟨g', cp, h1, h2, _⟩
                  · rw [h1] at hg; cases hg
                  · rw [h1] at hg; cases hg; exact h2)
                have A5 : Hid (∀ g, ob a5 = some g → w1.heap.size ≤ g) := fun g e => (hx5 g e).elim (fun h => by rw [ob_slice] at h; exact HAB.out g h) (fun h => by have := HSZ.out; have := HS1.out; omega)
                have R5 : Hid (RdV w5 (some ⟨b, off, none⟩) n (K.map Value.string)) := RV5.out.grown hg5 (fun x e => by
                  cases e
                  rw [ob_slice]
                  intro h
                  have := HAB.out b h.symm
                  have := HYB.out b rfl (by omega)
                  omega)
                have S5 : Hid (w1.heap.size ≤ w5.heap.size) := by unfold Hid; have h1 := hg5.size; have h2 := HSZ.out; have h3 := HS1.out; omega
                clear ho5 hg5 hx5 OV BV5 CV hV5 RV5
                go_roundw
                case rel => exact ⟨k + 1, a5, c5, m1 + 1, by omega, by go_num, rfl, by unfold Hid; rw [HT'.out, List.length_append, HM.out]; rfl, O5.out, R5.out, B5.out, A5.out, HYB.out, S5.out⟩
                case measure => simp [intOf]; omega
            · have HT' : Hid (rgL fr to (K.take (k + 1)) = rgL fr to (K.take k)) := by unfold Hid; rw [HT.out]; unfold rgB; rw [hx]; simp
              go_wp2
              go_roundw
              case rel => exact ⟨k + 1, a1, c1, m1, by omega, by go_num, rfl, by unfold Hid; rw [HT'.out]; exact HM.out, by unfold Hid; rw [HT'.out]; exact OW.out, RW.out, BW.out, HAB.out, HYB.out, HS1.out⟩
              case measure => simp [intOf]; omega
          · have e : k = n := by omega
            subst e
            have E : Hid (rgL fr to (K.take k) = rgL fr to K) := by unfold Hid; rw [List.take_of_length_le (by rw [HKN.out]; omega)]
            have hmk : m1 ≤ k := by have h1 := rg_len fr to (K.take k); rw [HM.out, List.length_take, HKN.out] at h1; omega
            go_wp2
            go_ret2
            exact ⟨a1, m1, c1, rgL fr to K, 0, rfl, by rw [← E.out, HM.out], by omega, by rw [← E.out]; exact OW.out, HA.out, BW.out⟩

end Go.Proofs.Ythnggpjgajkaeaa
