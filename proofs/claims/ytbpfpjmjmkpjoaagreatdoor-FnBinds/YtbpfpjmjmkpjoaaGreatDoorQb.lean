/-
  What a parser reads lies in reach, and it always reads something.
-/
import Derived.Test.YtbpfpjmjmkpjoaaGreatDoorQa
namespace Go.Proofs.YtbpfpjmjmkpjoaaGreatDoor
open Go Go.RowKit

set_option linter.unusedVariables false
set_option linter.unusedSimpArgs false
theorem nxt_pos {T : List ByteArray} {x : ByteArray} (h : nxt T = x) (hx : x.size ≠ 0) : 1 ≤ T.length := by
  cases T with
  | nil => exact absurd (by rw [← h]; rfl) hx
  | cons a b => simp
theorem sgT_pos {k : Nat} (h : 6 ≤ k) (h2 : k ≤ 13) : (sgT (k : Int)).size ≠ 0 := by
  rcases (by omega : k = 6 ∨ k = 7 ∨ k = 8 ∨ k = 9 ∨ k = 10 ∨ k = 11 ∨ k = 12 ∨ k = 13) with rfl | rfl | rfl | rfl | rfl | rfl | rfl | rfl <;> decide
theorem sgn_inv {lo hi k : Nat} {T : List ByteArray} (h : sgn lo hi T = k) (hk : k ≠ 0) : (k = lo ∨ k = hi) ∧ nxt T = sgT (k : Int) := by
  unfold sgn at h
  split at h
  · rename_i e; subst h; exact ⟨.inl rfl, e⟩
  · split at h
    · rename_i e; subst h; exact ⟨.inr rfl, e⟩
    · exact absurd h.symm hk
theorem sgn_in {c : Ch} {k : Nat} {T : List ByteArray} (h : sgn c.lo c.hi T = k) (hk : k ≠ 0) : inB (k : Int) 6 13 = true ∧ 1 ≤ T.length ∧ nxt T = sgT (k : Int) ∧ 6 ≤ k ∧ k ≤ 13 := by
  obtain ⟨hc, hn⟩ := sgn_inv h hk
  have hb : 6 ≤ k ∧ k ≤ 13 := by cases c <;> simp only [Ch.lo, Ch.hi] at hc <;> omega
  exact ⟨decide_eq_true (by omega), nxt_pos hn (sgT_pos hb.1 hb.2), hn, hb⟩
theorem sgn_in2 {k : Nat} {T : List ByteArray} (h : sgn 10 11 T = k) (hk : k ≠ 0) : inB (k : Int) 6 13 = true ∧ 1 ≤ T.length ∧ nxt T = sgT (k : Int) ∧ 6 ≤ k ∧ k ≤ 13 := by
  obtain ⟨hc, hn⟩ := sgn_inv h hk
  have hb : 6 ≤ k ∧ k ≤ 13 := by omega
  exact ⟨decide_eq_true (by omega), nxt_pos hn (sgT_pos hb.1 hb.2), hn, hb⟩
theorem valT_pos {T : List ByteArray} {v : VT} (h : valT (nxt T) = some v) : 1 ≤ T.length := by
  cases T with
  | nil =>
    have e : (valT (nxt [])).isSome = false := by decide
    rw [h] at e; cases e
  | cons a b => simp
theorem numB_pos {T : List ByteArray} {v : Int} (h : numB (nxt T) = some v) : 1 ≤ T.length := by
  cases T with
  | nil =>
    have e : (numB (nxt [])).isSome = false := by decide
    rw [h] at e; cases e
  | cons a b => simp
theorem vAt_in {T T1 : List ByteArray} {v : VT} (h : vAt T = some (v, T1)) : (∃ k, T1 = T.drop k ∧ k ≤ T.length ∧ 1 ≤ k) ∧ valB v.k v.n v.t = true := by
  unfold vAt at h
  split at h
  · rename_i u hu
    simp only [Option.some.injEq, Prod.mk.injEq] at h
    obtain ⟨rfl, rfl⟩ := h
    exact ⟨⟨1, rfl, valT_pos hu, Nat.le_refl _⟩, valT_ok hu⟩
  · split at h
    · split at h
      · rename_i n hn
        split at h
        · cases h
        · simp only [Option.some.injEq, Prod.mk.injEq] at h
          obtain ⟨rfl, rfl⟩ := h
          have hl := numB_pos hn
          rw [List.length_drop] at hl
          refine ⟨⟨2, rfl, by omega, by omega⟩, ?_⟩
          have hb : -1000000000 ≤ n ∧ n ≤ 1000000000 := ((num_iff _ n).1 hn).2
          rw [val1]
          show (decide (-1000000000 ≤ -n ∧ -n ≤ 1000000000) && _) = true
          rw [decide_eq_true (by omega), emptyL]; rfl
      · cases h
    · cases h
theorem col_in {t : ByteArray} {k : Nat} (h : colOf t = some k) : k < 3 ∧ t = clT (k : Int) := by
  unfold colOf at h
  split at h
  · rename_i e; simp only [Option.some.injEq] at h; subst h; exact ⟨by omega, e⟩
  · split at h
    · rename_i e; simp only [Option.some.injEq] at h; subst h; exact ⟨by omega, e⟩
    · split at h
      · rename_i e; simp only [Option.some.injEq] at h; subst h; exact ⟨by omega, e⟩
      · cases h
theorem col_pos {T : List ByteArray} {k : Nat} (h : colOf (nxt T) = some k) : 1 ≤ T.length := by
  obtain ⟨hk, e⟩ := col_in h
  refine nxt_pos e ?_
  rcases (by omega : k = 0 ∨ k = 1 ∨ k = 2) with rfl | rfl | rfl <;> decide
theorem sub_more (c : Ch) : c.sub.nMore = true ∧ c.sub.cnt0 = 0 ∧ c.sub.ok0 = true := by cases c <;> exact ⟨rfl, rfl, rfl⟩
/-- Behind k tokens others are read. -/
theorem reach {T T1 : List ByteArray} {j : Nat} (hj : j ≤ T.length) {k : Nat} (e : T1 = (T.drop j).drop k) (hk : k ≤ (T.drop j).length) : T1 = T.drop (j + k) ∧ j + k ≤ T.length := by
  rw [List.length_drop] at hk
  exact ⟨by rw [e, List.drop_drop], by omega⟩
theorem goes {l : Lv} {o : Nat} {T : List ByteArray} {n : Nat} {r : Res} (h : Parses l o T n r) : n ≤ 40 → l.ok0 = true → Goes l T n r := by
  induction h with
  | @chE c o T n e h ih => intro hn _; exact ih hn (sub_more c).2.2
  | @chO c o T T1 n n1 p r h h2 ih ih2 =>
    intro hn _
    obtain ⟨⟨k, e, hk, hk1⟩, hc, h40, hp⟩ := ih hn (sub_more c).2.2
    rw [(sub_more c).2.1] at hc
    have i2 := ih2 h40 hp
    cases r with
    | err e => exact i2
    | ok q T2 n2 =>
      obtain ⟨⟨k2, e2, hk2, _⟩, hc2, h402, hq⟩ := i2
      subst e
      obtain ⟨r1, r2⟩ := reach hk e2 hk2
      have := hk1 (sub_more c).1
      refine ⟨⟨_, r1, r2, fun _ => by omega⟩, ?_, h402, hq⟩
      simp only [Lv.cnt0] at hc2 ⊢
      omega
  | @mEnd c o T n p h => intro hn hp; exact ⟨⟨0, rfl, Nat.zero_le _, fun h => by cases h⟩, rfl, hn, hp⟩
  | @mErr c o T n p e k h hk h2 ih => intro hn hp; exact ih hn (sub_more c).2.2
  | @mMany c o T T1 n n1 p q k h hk h2 h40 ih => intro hn hp; exact ⟨by decide, by decide, by decide⟩
  | @mOk c o T T1 n n1 p q k r h hk h2 h40 h3 ih ih2 =>
    intro hn hp
    obtain ⟨kb, hl, _, _⟩ := sgn_in h hk
    obtain ⟨⟨k1, e, hk1, _⟩, hc, _, hq⟩ := ih hn (sub_more c).2.2
    rw [(sub_more c).2.1] at hc
    have i2 := ih2 (by omega) (by show (inB (k : Int) 6 13 && (p.ok && q.ok)) = true; rw [kb, show p.ok = true from hp, hq]; rfl)
    obtain ⟨e, hk1⟩ := reach hl e hk1
    cases r with
    | err e => exact i2
    | ok q2 T2 n2 =>
      obtain ⟨⟨k2, e2, hk2, _⟩, hc2, h402, hq2⟩ := i2
      subst e
      obtain ⟨r1, r2⟩ := reach hk1 e2 hk2
      refine ⟨⟨_, r1, r2, fun h => by cases h⟩, ?_, h402, hq2⟩
      simp only [Lv.cnt0, PT.cnt] at hc2 ⊢
      omega
  | dDeep h ho => intro hn _; exact ⟨by decide, by decide, by decide⟩
  | dErr h ho h2 ih => intro hn _; exact ih hn rfl
  | dMany h ho h2 h40 ih => intro hn _; exact ⟨by decide, by decide, by decide⟩
  | @dOk o T T1 n n1 p h ho h2 h40 ih =>
    intro hn _
    obtain ⟨⟨k1, e, hk1, _⟩, hc, _, hq⟩ := ih hn rfl
    have hl := nxt_pos h (by decide)
    obtain ⟨e, hk1⟩ := reach hl e hk1
    exact ⟨⟨_, e, hk1, fun _ => by omega⟩, by simp only [Lv.cnt0, PT.cnt] at hc ⊢; omega, by omega, by show (inB 3 3 5 && p.ok) = true; rw [hq]; rfl⟩
  | dC h h2 ih => intro hn _; have := ih hn rfl; rename_i r; cases r <;> exact this
  | cE h ih => intro hn _; exact ih hn rfl
  | cIsF h h1 h2 ih => intro hn _; exact ⟨by decide, by decide, by decide⟩
  | cIsM h h1 h2 h40 ih => intro hn _; exact ⟨by decide, by decide, by decide⟩
  | @cIs o T T1 n n1 p h h1 h2 h40 ih =>
    intro hn _
    obtain ⟨⟨k1, e, hk1, _⟩, hc, _, hq⟩ := ih hn rfl
    subst e
    have l2 := nxt_pos h2 (by decide)
    simp only [List.length_drop] at l2
    exact ⟨⟨k1 + 2, by rw [List.drop_drop], by omega, fun _ => by omega⟩, by simp only [Lv.cnt0, PT.cnt] at hc ⊢; omega, by omega, by show (inB 4 3 5 && p.ok) = true; rw [hq]; rfl⟩
  | cQE h h1 h2 hk h3 ih ih2 =>
    intro hn _
    obtain ⟨_, _, h40, _⟩ := ih hn rfl
    exact ih2 h40 rfl
  | cQM h h1 h2 hk h3 h40 ih ih2 => intro hn _; exact ⟨by decide, by decide, by decide⟩
  | @cQ o T T1 T2 n n1 n2 k p q h h1 h2 hk h3 h40 ih ih2 =>
    intro hn _
    obtain ⟨⟨k1, e, hk1, _⟩, hc, h41, hp⟩ := ih hn rfl
    obtain ⟨kb, hl, _, _⟩ := sgn_in2 h2 hk
    obtain ⟨⟨k2, e2, hk2, _⟩, hc2, _, hq⟩ := ih2 h41 rfl
    obtain ⟨e2, hk2⟩ := reach hl e2 hk2
    subst e
    obtain ⟨e2, hk2⟩ := reach hk1 e2 hk2
    exact ⟨⟨_, e2, hk2, fun _ => by omega⟩, by simp only [Lv.cnt0, PT.cnt] at hc hc2 ⊢; omega, by omega, by show (inB (k : Int) 6 13 && (p.ok && q.ok)) = true; rw [kb, hp, hq]; rfl⟩
  | c0 h h1 h2 ih => intro hn _; exact ih hn rfl
  | gVM h h40 => intro hn _; exact ⟨by decide, by decide, by decide⟩
  | gV h h40 =>
    intro hn _
    obtain ⟨⟨k, e, hk, h1⟩, hv⟩ := vAt_in h
    exact ⟨⟨k, e, hk, fun _ => h1⟩, rfl, by omega, hv⟩
  | gDeep h h1 ho => intro hn _; exact ⟨by decide, by decide, by decide⟩
  | gErr h h1 ho h2 ih => intro hn _; exact ih hn rfl
  | gMany h h1 ho h2 h40 ih => intro hn _; exact ⟨by decide, by decide, by decide⟩
  | @gOk o T T1 n n1 p h h1 ho h2 h40 ih =>
    intro hn _
    obtain ⟨⟨k1, e, hk1, _⟩, hc, _, hq⟩ := ih hn rfl
    have hl := nxt_pos h1 (by decide)
    obtain ⟨e, hk1⟩ := reach hl e hk1
    exact ⟨⟨_, e, hk1, fun _ => by omega⟩, by simp only [Lv.cnt0, PT.cnt] at hc ⊢; omega, by omega, by show (inB 5 3 5 && p.ok) = true; rw [hq]; rfl⟩
  | gP h h1 h2 ih => intro hn _; have := ih hn rfl; rename_i r; cases r <;> exact this
  | pDeep h ho => intro hn _; exact ⟨by decide, by decide, by decide⟩
  | pErr h ho h2 ih => intro hn _; exact ih hn rfl
  | pNo h ho h2 h3 ih => intro hn _; exact ⟨by decide, by decide, by decide⟩
  | @pOk o T T1 n n1 p h ho h2 h3 ih =>
    intro hn _
    obtain ⟨⟨k1, e, hk1, _⟩, hc, h40, hq⟩ := ih hn rfl
    have hl := nxt_pos h (by decide)
    obtain ⟨e, hk1⟩ := reach hl e hk1
    subst e
    have l2 := nxt_pos h3 (by decide)
    rw [List.length_drop] at l2
    exact ⟨⟨_, by rw [List.drop_drop], by omega, fun _ => by omega⟩, hc, h40, hq⟩
  | pColM h h1 h40 => intro hn _; exact ⟨by decide, by decide, by decide⟩
  | pCol h h1 h40 =>
    intro hn _
    obtain ⟨hk, _⟩ := col_in h1
    exact ⟨⟨1, rfl, col_pos h1, fun _ => Nat.le_refl _⟩, rfl, by omega, decide_eq_true (by omega)⟩
  | pF h h1 => intro hn _; exact ⟨by decide, by decide, by decide⟩
def Has (l : Lv) (T : List ByteArray) : Prop := ∀ o n, o ≤ 48 → n ≤ 40 → ∃ r, Parses l o T n r
theorem has_chain (c : Ch) (T : List ByteArray) (hs : ∀ T', T'.length ≤ T.length → Has c.sub T') : Has (.ch c) T := by
  have more : ∀ (m : Nat) (T' : List ByteArray) (p : PT), T'.length ≤ m → T'.length ≤ T.length → p.ok = true → Has (.more c p) T' := by
    intro m
    induction m with
    | zero =>
      intro T' p hm _ _ o n ho hn
      obtain rfl : T' = [] := List.eq_nil_of_length_eq_zero (by omega)
      refine ⟨_, .mEnd ?_⟩
      cases c <;> decide
    | succ m ih =>
      intro T' p hm hT hp o n ho hn
      obtain ⟨k, hk⟩ : ∃ k, sgn c.lo c.hi T' = k := ⟨_, rfl⟩
      by_cases h0 : k = 0
      · exact ⟨_, .mEnd (hk.trans h0)⟩
      · obtain ⟨kb, hl, _, _⟩ := sgn_in hk h0
        have hd : (T'.drop 1).length = T'.length - 1 := List.length_drop
        obtain ⟨r, hr⟩ := hs (T'.drop 1) (by omega) o n ho hn
        have g := goes hr hn (sub_more c).2.2
        cases r with
        | err e => exact ⟨_, .mErr hk h0 hr⟩
        | ok q T1 n1 =>
          obtain ⟨⟨k1, e, hk1, h1⟩, hc, h40, hq⟩ := g
          have := h1 (sub_more c).1
          by_cases h4 : n1 = 40
          · exact ⟨_, .mMany hk h0 hr h4⟩
          · have hd2 : T1.length = T'.length - 1 - k1 := by rw [e, List.length_drop, hd]
            obtain ⟨r2, hr2⟩ := ih T1 (.bin (k : Int) p q) (by omega) (by omega) (by show (inB (k : Int) 6 13 && (p.ok && q.ok)) = true; rw [kb, hp, hq]; rfl) o (n1 + 1) ho (by omega)
            exact ⟨_, .mOk hk h0 hr (by omega) hr2⟩
  intro o n ho hn
  obtain ⟨r, hr⟩ := hs T (Nat.le_refl _) o n ho hn
  have g := goes hr hn (sub_more c).2.2
  cases r with
  | err e => exact ⟨_, .chE hr⟩
  | ok p T1 n1 =>
    obtain ⟨⟨k1, e, hk1, h1⟩, hc, h40, hp⟩ := g
    have hd2 : T1.length = T.length - k1 := by rw [e, List.length_drop]
    obtain ⟨r2, hr2⟩ := more T1.length T1 p (Nat.le_refl _) (by omega) hp o n1 ho h40
    exact ⟨_, .chO hr hr2⟩
theorem has_pri (T : List ByteArray) (hs : ∀ T', T'.length < T.length → Has (.ch .or) T') : Has .pri T := by
  intro o n ho hn
  by_cases h : nxt T = wOp
  · by_cases h48 : o = 48
    · exact ⟨_, .pDeep h h48⟩
    · have hl := nxt_pos h (by decide)
      obtain ⟨r, hr⟩ := hs (T.drop 1) (by rw [List.length_drop]; omega) (o + 1) n (by omega) hn
      cases r with
      | err e => exact ⟨_, .pErr h (by omega) hr⟩
      | ok p T1 n1 =>
        by_cases h3 : nxt T1 = wCl
        · exact ⟨_, .pOk h (by omega) hr h3⟩
        · exact ⟨_, .pNo h (by omega) hr h3⟩
  · cases hc : colOf (nxt T) with
    | none => exact ⟨_, .pF h hc⟩
    | some k =>
      by_cases h4 : n = 40
      · exact ⟨_, .pColM h hc h4⟩
      · exact ⟨_, .pCol h hc (by omega)⟩
theorem has_neg (T : List ByteArray) (hp : Has .pri T) (hs : ∀ T', T'.length < T.length → Has .neg T') : Has .neg T := by
  intro o n ho hn
  cases hv : vAt T with
  | some q =>
    obtain ⟨v, T1⟩ := q
    by_cases h4 : n = 40
    · exact ⟨_, .gVM hv h4⟩
    · exact ⟨_, .gV hv (by omega)⟩
  | none =>
    by_cases h : nxt T = wMin
    · by_cases h48 : o = 48
      · exact ⟨_, .gDeep hv h h48⟩
      · have hl := nxt_pos h (by decide)
        obtain ⟨r, hr⟩ := hs (T.drop 1) (by rw [List.length_drop]; omega) (o + 1) n (by omega) hn
        have g := goes hr hn rfl
        cases r with
        | err e => exact ⟨_, .gErr hv h (by omega) hr⟩
        | ok p T1 n1 =>
          have h40 := g.2.2.1
          by_cases h4 : n1 = 40
          · exact ⟨_, .gMany hv h (by omega) hr h4⟩
          · exact ⟨_, .gOk hv h (by omega) hr (by omega)⟩
    · obtain ⟨r, hr⟩ := hp o n ho hn
      exact ⟨r, .gP hv h hr⟩
theorem has_cmp (T : List ByteArray) (hs : ∀ T', T'.length ≤ T.length → Has (.ch .sum) T') : Has .cmp T := by
  intro o n ho hn
  obtain ⟨r, hr⟩ := hs T (Nat.le_refl _) o n ho hn
  have g := goes hr hn rfl
  cases r with
  | err e => exact ⟨_, .cE hr⟩
  | ok p T1 n1 =>
    obtain ⟨⟨k1, e, hk1, h1⟩, hc, h40, hp⟩ := g
    have hd2 : T1.length = T.length - k1 := by rw [e, List.length_drop]
    by_cases hi : nxt T1 = wIs
    · by_cases hu : nxt (T1.drop 1) = wNull
      · by_cases h4 : n1 = 40
        · exact ⟨_, .cIsM hr hi hu h4⟩
        · exact ⟨_, .cIs hr hi hu (by omega)⟩
      · exact ⟨_, .cIsF hr hi hu⟩
    · obtain ⟨k, hk⟩ : ∃ k, sgn 10 11 T1 = k := ⟨_, rfl⟩
      by_cases h0 : k = 0
      · exact ⟨_, .c0 hr hi (hk.trans h0)⟩
      · obtain ⟨r2, hr2⟩ := hs (T1.drop 1) (by rw [List.length_drop]; omega) o n1 ho h40
        have g2 := goes hr2 h40 rfl
        cases r2 with
        | err e => exact ⟨_, .cQE hr hi hk h0 hr2⟩
        | ok q T2 n2 =>
          have h42 := g2.2.2.1
          by_cases h4 : n2 = 40
          · exact ⟨_, .cQM hr hi hk h0 hr2 h4⟩
          · exact ⟨_, .cQ hr hi hk h0 hr2 (by omega)⟩
theorem has_den (T : List ByteArray) (hp : Has .cmp T) (hs : ∀ T', T'.length < T.length → Has .den T') : Has .den T := by
  intro o n ho hn
  by_cases h : nxt T = wNot
  · by_cases h48 : o = 48
    · exact ⟨_, .dDeep h h48⟩
    · have hl := nxt_pos h (by decide)
      obtain ⟨r, hr⟩ := hs (T.drop 1) (by rw [List.length_drop]; omega) (o + 1) n (by omega) hn
      have g := goes hr hn rfl
      cases r with
      | err e => exact ⟨_, .dErr h (by omega) hr⟩
      | ok p T1 n1 =>
        have h40 := g.2.2.1
        by_cases h4 : n1 = 40
        · exact ⟨_, .dMany h (by omega) hr h4⟩
        · exact ⟨_, .dOk h (by omega) hr (by omega)⟩
  · obtain ⟨r, hr⟩ := hp o n ho hn
    exact ⟨r, .dC h hr⟩
theorem has_all : ∀ (m : Nat) (T : List ByteArray), T.length ≤ m → Has .pri T ∧ Has .neg T ∧ Has (.ch .mul) T ∧ Has (.ch .sum) T ∧ Has .cmp T ∧ Has .den T ∧ Has (.ch .and) T ∧ Has (.ch .or) T := by
  intro m
  induction m with
  | zero =>
    have lt : ∀ {T T' : List ByteArray}, T.length ≤ 0 → ¬ T'.length < T.length := fun h h2 => by omega
    have s1 : ∀ T : List ByteArray, T.length ≤ 0 → Has .pri T := fun T h => has_pri T fun T' h' => absurd h' (lt h)
    have s2 : ∀ T : List ByteArray, T.length ≤ 0 → Has .neg T := fun T h => has_neg T (s1 T h) fun T' h' => absurd h' (lt h)
    have s3 : ∀ T : List ByteArray, T.length ≤ 0 → Has (.ch .mul) T := fun T h => has_chain .mul T fun T' h' => s2 T' (by omega)
    have s4 : ∀ T : List ByteArray, T.length ≤ 0 → Has (.ch .sum) T := fun T h => has_chain .sum T fun T' h' => s3 T' (by omega)
    have s5 : ∀ T : List ByteArray, T.length ≤ 0 → Has .cmp T := fun T h => has_cmp T fun T' h' => s4 T' (by omega)
    have s6 : ∀ T : List ByteArray, T.length ≤ 0 → Has .den T := fun T h => has_den T (s5 T h) fun T' h' => absurd h' (lt h)
    have s7 : ∀ T : List ByteArray, T.length ≤ 0 → Has (.ch .and) T := fun T h => has_chain .and T fun T' h' => s6 T' (by omega)
    intro T h
    exact ⟨s1 T h, s2 T h, s3 T h, s4 T h, s5 T h, s6 T h, s7 T h, has_chain .or T fun T' h' => s7 T' (by omega)⟩
  | succ m ih =>
    have s1 : ∀ T : List ByteArray, T.length ≤ m + 1 → Has .pri T := fun T h => has_pri T fun T' h' => (ih T' (by omega)).2.2.2.2.2.2.2
    have s2 : ∀ T : List ByteArray, T.length ≤ m + 1 → Has .neg T := fun T h => has_neg T (s1 T h) fun T' h' => (ih T' (by omega)).2.1
    have s3 : ∀ T : List ByteArray, T.length ≤ m + 1 → Has (.ch .mul) T := fun T h => has_chain .mul T fun T' h' => s2 T' (by omega)
    have s4 : ∀ T : List ByteArray, T.length ≤ m + 1 → Has (.ch .sum) T := fun T h => has_chain .sum T fun T' h' => s3 T' (by omega)
    have s5 : ∀ T : List ByteArray, T.length ≤ m + 1 → Has .cmp T := fun T h => has_cmp T fun T' h' => s4 T' (by omega)
    have s6 : ∀ T : List ByteArray, T.length ≤ m + 1 → Has .den T := fun T h => has_den T (s5 T h) fun T' h' => (ih T' (by omega)).2.2.2.2.2.1
    have s7 : ∀ T : List ByteArray, T.length ≤ m + 1 → Has (.ch .and) T := fun T h => has_chain .and T fun T' h' => s6 T' (by omega)
    intro T h
    exact ⟨s1 T h, s2 T h, s3 T h, s4 T h, s5 T h, s6 T h, s7 T h, has_chain .or T fun T' h' => s7 T' (by omega)⟩
theorem has_expr (T : List ByteArray) : ∃ r, Parses (.ch .or) 0 T 0 r := (has_all T.length T (Nat.le_refl _)).2.2.2.2.2.2.2 0 0 (by omega) (by omega)

end Go.Proofs.YtbpfpjmjmkpjoaaGreatDoor
