/-
  What is asked of a tree and a key; TreeFind.
-/
import Derived.Test.YthnggpjgajkaeaaNb
namespace Go.Proofs.Ythnggpjgajkaeaa
open Go Go.RowKit
attribute [local go_sem ↓] Go.wp_at_zero Go.wp_at_succ

/-- The code of a tree and a key that are handed in together. -/
def AskC (L : List ND) (ro : Int) (key : ByteArray) (c : Int) : Prop := (65536 < key.size ∧ c = 2) ∨ (key.size ≤ 65536 ∧ ¬ TG L ro ∧ c = 1) ∨ (key.size ≤ 65536 ∧ TG L ro ∧ kOK key = false ∧ c = 4) ∨ (key.size ≤ 65536 ∧ TG L ro ∧ kOK key = true ∧ c = 0)
theorem AskC.uniq {L : List ND} {ro : Int} {key : ByteArray} {c c' : Int} (h : AskC L ro key c) (h' : AskC L ro key c') : c' = c := by
  rcases h with ⟨h1, rfl⟩ | ⟨h1, h2, rfl⟩ | ⟨h1, h2, h3, rfl⟩ | ⟨h1, h2, h3, rfl⟩ <;> rcases h' with ⟨k1, rfl⟩ | ⟨k1, k2, rfl⟩ | ⟨k1, k2, k3, rfl⟩ | ⟨k1, k2, k3, rfl⟩
  all_goals first
    | rfl
    | (exfalso; omega)
    | exact absurd h2 k2
    | exact absurd k2 h2
    | (rw [h3] at k3; cases k3)
/-- What askedFor answers. -/
def AnsAI (L : List ND) (ro : Int) (key : ByteArray) (e : Ending) (w' : World) : Prop := (∃ c : Int, e = .returned (.tuple #[.pointer none, .int .i64 c]) ∧ c ≠ 0 ∧ AskC L ro key c) ∨ ∃ p ks f d A, e = .returned (.tuple #[.pointer (some ⟨p, 0, none⟩), .int .i64 0]) ∧ AskC L ro key 0 ∧ TGood L ro ks f d ∧ RdB w' A p ks f
set_option maxRecDepth 100000 in
set_option maxHeartbeats 8000000 in
theorem c_askedFor (ro : Int) (la : Option Addr) (ln lc : Nat) (vs : List TNode) (key : ByteArray) (w : World) (hr : RdN w la ln vs) (hn : ln ≤ 1048576) (hf : ∀ i, i < ln → FitN (vs.getD i zeroN)) (hnil : ∀ i, i < ln → (vs.getD i zeroN).ka = none → (vs.getD i zeroN).kc = 0) (hkey : key.size ≤ 1048576) :
    Calls Try.prog 40 #[.agg #[.int .i64 ro, .slice la ln lc], .string key] w fun e w' => AnsAI (vs.map saysN) ro key e w' ∧ Below w.heap.size w w' := by
  obtain ⟨V, hV⟩ : ∃ Q, w.alloc (.cells #[.int .i64 ro, .slice la ln lc] 27) = Q := ⟨_, rfl⟩
  have bV : Below w.heap.size w V := by rw [← hV]; exact (Below.refl _ _).alloc (Nat.le_refl _) _
  have XV : Hid (Box V w.heap.size 27 #[.int .i64 ro, .slice la ln lc]) := by unfold Hid; rw [← hV]; exact Box.new _ _ _
  have x0 : V.cell? ⟨w.heap.size, 0, none⟩ = some (.int .i64 ro) := XV.out.cell 0
  have x1 : V.cell? ⟨w.heap.size, 1, none⟩ = some (.slice la ln lc) := XV.out.cell 1
  have BV : Hid (Below w.heap.size w V) := bV
  have C := c_rootOf ro la ln lc vs V (hr.below bV) hn hf hnil
  clear hr hf hnil bV
  by_cases h1 : 65536 < key.size
  · have HA : Hid (AskC (vs.map saysN) ro key 2) := .inl ⟨h1, rfl⟩
    go_enter Try.func40, Try.ntmps40
    go_wp2
    go_ret2
    exact ⟨.inl ⟨2, rfl, by omega, HA.out⟩, BV.out⟩
  · go_enter Try.func40, Try.ntmps40
    go_wp2_with fail
    refine C.mono ?_
    rintro e w1 ⟨hans, hb1⟩
    have B1 : Hid (Below w.heap.size w w1) := BV.out.trans (hb1.mono BV.out.size)
    clear hb1 C hV x0 x1
    rcases hans with ⟨rfl, hno⟩ | ⟨p, ks, f, d, A, rfl, hg, hrd⟩
    · have HA : Hid (AskC (vs.map saysN) ro key 1) := .inr (.inl ⟨by omega, hno, rfl⟩)
      clear hno
      go_wp2
      go_ret2
      exact ⟨.inl ⟨1, rfl, by omega, HA.out⟩, B1.out⟩
    · have HG : Hid (TGood (vs.map saysN) ro ks f d) := hg
      have HRd : Hid (RdB w1 A p ks f) := hrd
      have C2 := c_treeKey key w1 hkey
      clear hg hrd
      cases hk : kOK key
      · have HA : Hid (AskC (vs.map saysN) ro key 4) := .inr (.inr (.inl ⟨by omega, ⟨ks, f, d, HG.out⟩, hk, rfl⟩))
        rw [hk] at C2
        clear hk
        go_wp2_with fail
        refine C2.mono ?_
        rintro e w' ⟨rfl, hq⟩; have hq' := hq.symm; subst hq'; clear hq C2
        go_wp2
        go_ret2
        exact ⟨.inl ⟨4, rfl, by omega, HA.out⟩, B1.out⟩
      · have HA : Hid (AskC (vs.map saysN) ro key 0) := .inr (.inr (.inr ⟨by omega, ⟨ks, f, d, HG.out⟩, hk, rfl⟩))
        rw [hk] at C2
        clear hk
        go_wp2_with fail
        refine C2.mono ?_
        rintro e w' ⟨rfl, hq⟩; have hq' := hq.symm; subst hq'; clear hq C2
        go_wp2
        go_ret2
        exact ⟨.inr ⟨p, ks, f, d, A, rfl, HA.out, HG.out, HRd.out⟩, B1.out⟩
/-- What l09Ask answers. -/
def AnsAS (L : List ND) (ro : Int) (key : ByteArray) (w : World) (e : Ending) (w' : World) : Prop := ∃ (ya : Option Addr) (n yc : Nat) (K : List ByteArray) (c : Int), e = .returned (.tuple #[.slice ya n yc, .int .i64 c]) ∧ K.length = n ∧ n ≤ 1000 ∧ w'.ownsRow w.heap.size 9 1 (.slice ya n yc) n (K.map Value.string) ∧ AskC L ro key c ∧ (c = 0 → ∃ ks f d, TGood L ro ks f d ∧ K = allT ks f) ∧ Below w.heap.size w w'
theorem own_empty {w V : World} (h : w.heap.size ≤ V.heap.size) : (V.alloc (.cells #[] 9)).ownsRow w.heap.size 9 1 (.slice (some ⟨V.heap.size, 0, none⟩) 0 0) 0 (([] : List ByteArray).map Value.string) := World.ownsRow_lit V #[] 0 h (by unfold maxLen; omega) rfl
set_option maxRecDepth 100000 in
set_option maxHeartbeats 8000000 in
theorem c_l09Ask (ro : Int) (la : Option Addr) (ln lc : Nat) (vs : List TNode) (key : ByteArray) (w : World) (hr : RdN w la ln vs) (hn : ln ≤ 1048576) (hf : ∀ i, i < ln → FitN (vs.getD i zeroN)) (hnil : ∀ i, i < ln → (vs.getD i zeroN).ka = none → (vs.getD i zeroN).kc = 0) (hkey : key.size ≤ 1048576) :
    Calls Try.prog 48 #[.agg #[.int .i64 ro, .slice la ln lc], .string key] w fun e w' => AnsAS (vs.map saysN) ro key w e w' := by
  obtain ⟨V, hV⟩ : ∃ Q, w.alloc (.cells #[.int .i64 ro, .slice la ln lc] 27) = Q := ⟨_, rfl⟩
  have bV : Below w.heap.size w V := by rw [← hV]; exact (Below.refl _ _).alloc (Nat.le_refl _) _
  have XV : Hid (Box V w.heap.size 27 #[.int .i64 ro, .slice la ln lc]) := by unfold Hid; rw [← hV]; exact Box.new _ _ _
  have x0 : V.cell? ⟨w.heap.size, 0, none⟩ = some (.int .i64 ro) := XV.out.cell 0
  have x1 : V.cell? ⟨w.heap.size, 1, none⟩ = some (.slice la ln lc) := XV.out.cell 1
  have BV : Hid (Below w.heap.size w V) := bV
  have C := c_l09Walk ro la ln lc vs V (hr.below bV) hn hf hnil
  clear hr hf hnil bV
  by_cases h1 : 65536 < key.size
  · have HA : Hid (AskC (vs.map saysN) ro key 2) := .inl ⟨h1, rfl⟩
    go_enter Try.func48, Try.ntmps48
    go_wp2
    go_ret2
    exact ⟨_, 0, 0, [], 2, rfl, rfl, by omega, own_empty BV.out.size, HA.out, fun h => absurd h (by omega), BV.out.alloc BV.out.size _⟩
  · go_enter Try.func48, Try.ntmps48
    go_wp2_with fail
    refine C.mono ?_
    rintro e w1 ⟨ya, n, yc, K, d, okb, rfl, hkl, hk1, ho, h3, h4, hb1⟩
    have B1 : Hid (Below w.heap.size w w1) := BV.out.trans (hb1.mono BV.out.size)
    have O1 : Hid (w1.ownsRow w.heap.size 9 1 (.slice ya n yc) n (K.map Value.string)) := ho.down BV.out.size
    have H3 : Hid (okb = true ↔ TG (vs.map saysN) ro) := h3
    have H4 : Hid (okb = true → ∃ ks f, TGood (vs.map saysN) ro ks f d ∧ K = allT ks f) := h4
    have HKL : Hid (K.length = n) := hkl
    clear hb1 C hV x0 x1 ho h3 h4 hkl
    cases okb
    · have HA : Hid (AskC (vs.map saysN) ro key 1) := .inr (.inl ⟨by omega, fun h => (by have := H3.out.2 h; cases this), rfl⟩)
      clear H3 H4
      go_wp2
      go_ret2
      exact ⟨_, 0, 0, [], 1, rfl, rfl, by omega, own_empty B1.out.size, HA.out, fun h => absurd h (by omega), B1.out.alloc B1.out.size _⟩
    · have C2 := c_l09Key key w1 hkey
      have HT : Hid (TG (vs.map saysN) ro) := H3.out.1 rfl
      have HT4 : Hid (∃ ks f, TGood (vs.map saysN) ro ks f d ∧ K = allT ks f) := H4.out rfl
      clear H3 H4
      cases hk : kOK key
      · have HA : Hid (AskC (vs.map saysN) ro key 4) := .inr (.inr (.inl ⟨by omega, HT.out, hk, rfl⟩))
        rw [hk] at C2
        clear hk
        go_wp2_with fail
        refine C2.mono ?_
        rintro e w' ⟨rfl, hq⟩; have hq' := hq.symm; subst hq'; clear hq C2
        go_wp2
        go_ret2
        exact ⟨_, 0, 0, [], 4, rfl, rfl, by omega, own_empty B1.out.size, HA.out, fun h => absurd h (by omega), B1.out.alloc B1.out.size _⟩
      · have HA : Hid (AskC (vs.map saysN) ro key 0) := .inr (.inr (.inr ⟨by omega, HT.out, hk, rfl⟩))
        rw [hk] at C2
        clear hk
        go_wp2_with fail
        refine C2.mono ?_
        rintro e w' ⟨rfl, hq⟩; have hq' := hq.symm; subst hq'; clear hq C2
        go_wp2
        go_ret2
        exact ⟨ya, n, yc, K, 0, rfl, HKL.out, hk1, O1.out, HA.out, fun _ => by obtain ⟨ks, f, g, e⟩ := HT4.out; exact ⟨ks, f, d, g, e⟩, B1.out⟩
theorem TGood.keysUniq {L : List ND} {ro : Int} {ks ks' : List ByteArray} {f f' : Fo} {d d' : Nat} (g : TGood L ro ks f d) (g' : TGood L ro ks' f' d') : allT ks' f' = allT ks f := by
  obtain ⟨m', hc, _⟩ := g.climb
  obtain ⟨rfl, _, e⟩ := TG_same hc g'
  rw [e, ← g.root]
/-- Whether a key is in a tree, and the code. -/
def FindIs (L : List ND) (ro : Int) (key : ByteArray) (b : Bool) (c : Int) : Prop := AskC L ro key c ∧ (c ≠ 0 → b = false) ∧ (c = 0 → ∃ ks f d, TGood L ro ks f d ∧ b = inK key (allT ks f))
theorem FindIs.uniq {L : List ND} {ro : Int} {key : ByteArray} {b b' : Bool} {c c' : Int} (h : FindIs L ro key b c) (h' : FindIs L ro key b' c') : b' = b ∧ c' = c := by
  have e := h.1.uniq h'.1
  subst e
  refine ⟨?_, rfl⟩
  by_cases h0 : c' = 0
  · obtain ⟨ks, f, d, g, rfl⟩ := h.2.2 h0
    obtain ⟨ks', f', d', g', rfl⟩ := h'.2.2 h0
    rw [g.keysUniq g']
  · rw [h.2.1 h0, h'.2.1 h0]
def AnsF (L : List ND) (ro : Int) (key : ByteArray) (e : Ending) : Prop := ∃ (b : Bool) (c : Int), e = .returned (.tuple #[.bool b, .int .i64 c]) ∧ FindIs L ro key b c
set_option maxRecDepth 100000 in
set_option maxHeartbeats 8000000 in
theorem c_implFind (ro : Int) (la : Option Addr) (ln lc : Nat) (vs : List TNode) (key : ByteArray) (w : World) (hr : RdN w la ln vs) (hn : ln ≤ 1048576) (hf : ∀ i, i < ln → FitN (vs.getD i zeroN)) (hnil : ∀ i, i < ln → (vs.getD i zeroN).ka = none → (vs.getD i zeroN).kc = 0) (hkey : key.size ≤ 1048576) :
    Calls Try.prog 20 #[.agg #[.int .i64 ro, .slice la ln lc], .string key] w fun e w' => AnsF (vs.map saysN) ro key e ∧ Below w.heap.size w w' := by
  obtain ⟨V, hV⟩ : ∃ Q, w.alloc (.cells #[.int .i64 ro, .slice la ln lc] 27) = Q := ⟨_, rfl⟩
  have bV : Below w.heap.size w V := by rw [← hV]; exact (Below.refl _ _).alloc (Nat.le_refl _) _
  have XV : Hid (Box V w.heap.size 27 #[.int .i64 ro, .slice la ln lc]) := by unfold Hid; rw [← hV]; exact Box.new _ _ _
  have x0 : V.cell? ⟨w.heap.size, 0, none⟩ = some (.int .i64 ro) := XV.out.cell 0
  have x1 : V.cell? ⟨w.heap.size, 1, none⟩ = some (.slice la ln lc) := XV.out.cell 1
  have BV : Hid (Below w.heap.size w V) := bV
  have C := c_askedFor ro la ln lc vs key V (hr.below bV) hn hf hnil hkey
  clear hr hf hnil bV
  go_enter Try.func20, Try.ntmps20
  go_wp2_with fail
  refine C.mono ?_
  rintro e w1 ⟨hans, hb1⟩
  have B1 : Hid (Below w.heap.size w w1) := BV.out.trans (hb1.mono BV.out.size)
  clear hb1 C hV x0 x1
  rcases hans with ⟨c, rfl, hc0, ha⟩ | ⟨p, ks, f, d, A, rfl, ha, hg, hrd⟩
  · have HF : Hid (AnsF (vs.map saysN) ro key (.returned (.tuple #[.bool false, .int .i64 c]))) := ⟨false, c, rfl, ha, fun _ => rfl, fun h => absurd h hc0⟩
    have hc1 : (c != 0) = true := by simpa using hc0
    clear ha hc0
    go_wp2
    go_ret2
    exact ⟨HF.out, B1.out⟩
  · have q := hg.size
    have CH := c_has key 201 (by omega) f ks A p w1 q.1 hrd q.2.1 q.2.2.1 q.2.2.2 hg.sig hg.keys.rise
    have HF : Hid (AnsF (vs.map saysN) ro key (.returned (.tuple #[.bool (inK key (allT ks f)), .int .i64 0]))) := ⟨_, 0, rfl, ha, fun h => absurd rfl h, fun _ => ⟨ks, f, d, hg, rfl⟩⟩
    clear hg hrd q ha
    go_wp2_with fail
    refine CH.mono ?_
    rintro e w' ⟨rfl, hq⟩; have hq' := hq.symm; subst hq'; clear hq CH
    go_wp2
    go_ret2
    exact ⟨HF.out, B1.out⟩
set_option maxRecDepth 100000 in
set_option maxHeartbeats 8000000 in
theorem c_specFind (ro : Int) (la : Option Addr) (ln lc : Nat) (vs : List TNode) (key : ByteArray) (w : World) (hr : RdN w la ln vs) (hn : ln ≤ 1048576) (hf : ∀ i, i < ln → FitN (vs.getD i zeroN)) (hnil : ∀ i, i < ln → (vs.getD i zeroN).ka = none → (vs.getD i zeroN).kc = 0) (hkey : key.size ≤ 1048576) :
    Calls Try.prog 31 #[.agg #[.int .i64 ro, .slice la ln lc], .string key] w fun e w' => AnsF (vs.map saysN) ro key e ∧ Below w.heap.size w w' := by
  obtain ⟨V, hV⟩ : ∃ Q, w.alloc (.cells #[.int .i64 ro, .slice la ln lc] 27) = Q := ⟨_, rfl⟩
  have bV : Below w.heap.size w V := by rw [← hV]; exact (Below.refl _ _).alloc (Nat.le_refl _) _
  have XV : Hid (Box V w.heap.size 27 #[.int .i64 ro, .slice la ln lc]) := by unfold Hid; rw [← hV]; exact Box.new _ _ _
  have x0 : V.cell? ⟨w.heap.size, 0, none⟩ = some (.int .i64 ro) := XV.out.cell 0
  have x1 : V.cell? ⟨w.heap.size, 1, none⟩ = some (.slice la ln lc) := XV.out.cell 1
  have BV : Hid (Below w.heap.size w V) := bV
  have C := c_l09Ask ro la ln lc vs key V (hr.below bV) hn hf hnil hkey
  clear hr hf hnil bV
  by_cases h1 : 65536 < key.size
  · have HF : Hid (AnsF (vs.map saysN) ro key (.returned (.tuple #[.bool false, .int .i64 2]))) := ⟨false, 2, rfl, .inl ⟨h1, rfl⟩, fun _ => rfl, fun h => absurd h (by omega)⟩
    go_enter Try.func31, Try.ntmps31
    go_wp2
    go_ret2
    exact ⟨HF.out, BV.out⟩
  · go_enter Try.func31, Try.ntmps31
    go_wp2_with fail
    refine C.mono ?_
    rintro e w1 ⟨ya, n, yc, K, c, rfl, hkl, hk1, ho, ha, h4, hb1⟩
    have B1 : Hid (Below w.heap.size w w1) := BV.out.trans (hb1.mono BV.out.size)
    have HRK : Hid (RdV w1 ya n (K.map Value.string)) := RdV.own ho
    have HKL : Hid (K.length = n) := hkl
    clear hb1 C hV x0 x1 ho hkl
    by_cases hc0 : c = 0
    · obtain ⟨ks, f, d, hg, he⟩ := h4 hc0
      have CA := c_l09At ya n yc K key w1 HRK.out (by omega)
      obtain ⟨P, hP⟩ : ∃ P, posK key K = P := ⟨_, rfl⟩
      have HP : Hid (posK key K = P) := hP
      have HF : Hid (∀ b, b = inK key K → AnsF (vs.map saysN) ro key (.returned (.tuple #[.bool b, .int .i64 0]))) := fun b hb => ⟨b, 0, rfl, by rw [hc0] at ha; exact ha, fun h => absurd rfl h, fun _ => ⟨ks, f, d, hg, by rw [hb, he]⟩⟩
      subst hc0
      rw [hP] at CA
      have hPn : P ≤ n := by rw [← hP, ← HKL.out]; exact posK_le key K
      clear ha h4 hg he hP
      go_wp2_with fail
      refine CA.mono ?_
      rintro e w' ⟨rfl, hq⟩; have hq' := hq.symm; subst hq'; clear hq CA
      by_cases hpn : P < n
      · obtain ⟨b, off, rfl, hbl, hc⟩ := HRK.out.2 (by omega)
        obtain ⟨y, hy⟩ : ∃ y, K.getD P zS = y := ⟨_, rfl⟩
        have e0 : w1.cell? ⟨b, off + P, none⟩ = some (.string y) := by rw [hc P hpn, ← hy]; exact map_get _ _ _ _ (by rw [HKL.out]; omega)
        have HI : Hid (inK key K = decide (y = key)) := by unfold Hid; rw [inK_lt HKL.out HP.out hpn, hy]
        have g1 : (0 : Int) ≤ (P : Int) := by omega
        have g2 : (P : Int) < (n : Int) := by omega
        clear hc hy
        by_cases hq : y = key
        · have hq' : (y.toList == key.toList) = true := by simp [hq]
          have E : Hid (AnsF (vs.map saysN) ro key (.returned (.tuple #[.bool true, .int .i64 0]))) := HF.out true (by rw [HI.out, decide_eq_true hq])
          clear hq HF
          go_wp2
          go_ret2
          exact ⟨E.out, B1.out⟩
        · have hq' : (y.toList == key.toList) = false := by rw [beq_eq_false_iff_ne]; exact fun e => hq (toList_inj e)
          have E : Hid (AnsF (vs.map saysN) ro key (.returned (.tuple #[.bool false, .int .i64 0]))) := HF.out false (by rw [HI.out, decide_eq_false hq])
          clear hq HF
          go_wp2
          go_ret2
          exact ⟨E.out, B1.out⟩
      · have E : Hid (AnsF (vs.map saysN) ro key (.returned (.tuple #[.bool false, .int .i64 0]))) := HF.out false (inK_end HKL.out HP.out hpn).symm
        clear HF
        go_wp2
        go_ret2
        exact ⟨E.out, B1.out⟩
    · have HF : Hid (AnsF (vs.map saysN) ro key (.returned (.tuple #[.bool false, .int .i64 c]))) := ⟨false, c, rfl, ha, fun _ => rfl, fun h => absurd h hc0⟩
      have hc1 : (c != 0) = true := by simpa using hc0
      clear ha hc0 h4
      go_wp2
      go_ret2
      exact ⟨HF.out, B1.out⟩

end Go.Proofs.Ythnggpjgajkaeaa
