/-
  The analysis of a log: what it has, and what it tells.
-/
import Derived.Test.YtimdoaehlciecaaAa
import Derived.Test.YtimdoaehlciecaaLp
namespace Go.Proofs.Ytimdoaehlciecaa
open Go Go.RowKit
attribute [local go_sem ↓] Go.wp_at_zero Go.wp_at_succ

/-- What the analysis has: eight pages' Firsts, then 61 transactions' Lasts. -/
def anM (g : Nat → Int) (r : DR) : Nat → Int :=
  if (r.k = 2 ∨ r.k = 3) ∧ g r.g.toNat = 0 then updN (updN g (8 + r.t.toNat) (if endK r.k then 0 else r.l)) r.g.toNat r.l else updN g (8 + r.t.toNat) (if endK r.k then 0 else r.l)
def ofP (f : Nat → Int) (o : Nat) (ps : List (Int × Int)) : Nat → Int := ps.foldl (fun f p => updN f (o + p.1.toNat) p.2) f
theorem ofP_cons (f : Nat → Int) (o : Nat) (p : Int × Int) (ps : List (Int × Int)) : ofP f o (p :: ps) = ofP (updN f (o + p.1.toNat) p.2) o ps := rfl
def anC (r : DR) : Nat → Int := match rc2 (numsT r.a) with
  | some (ps, ts) => ofP (ofP (fun _ => 0) 0 ps) 8 ts
  | none => fun _ => 0
def anS (g : Nat → Int) (r : DR) : Nat → Int := if r.k = 6 then anC r else anM g r
def anR (L : List DR) : Nat → Int := L.foldl anS (fun _ => 0)
theorem anR_take {L : List DR} {k : Nat} (h : k < L.length) : anR (L.take (k + 1)) = anS (anR (L.take k)) (L.getD k zeroR) := by
  have e : L.take (k + 1) = L.take k ++ [L.getD k zeroR] := by
    rw [List.take_add_one, List.getElem?_eq_getElem h, List.getD_eq_getElem?_getD, List.getElem?_eq_getElem h]
    rfl
  unfold anR
  rw [e, List.foldl_append]
  rfl
/-- What stands from a on, of n numbers. -/
def seg (f : Nat → Int) (a : Nat) : Nat → List (Int × Int)
  | 0 => []
  | n + 1 => (if 0 < f a then [((a : Int), f a)] else []) ++ seg f (a + 1) n
theorem seg_add (f : Nat → Int) : ∀ (m a n : Nat), seg f a (m + n) = seg f a m ++ seg f (a + m) n
  | 0, a, n => by rw [Nat.zero_add]; rfl
  | m + 1, a, n => by
    rw [show m + 1 + n = m + n + 1 by omega]
    show (if 0 < f a then [((a : Int), f a)] else []) ++ seg f (a + 1) (m + n) = ((if 0 < f a then [((a : Int), f a)] else []) ++ seg f (a + 1) m) ++ seg f (a + (m + 1)) n
    rw [seg_add f m (a + 1) n, List.append_assoc, show a + 1 + m = a + (m + 1) by omega]
theorem seg_snoc (f : Nat → Int) (a n : Nat) : seg f a (n + 1) = seg f a n ++ (if 0 < f (a + n) then [(((a + n : Nat) : Int), f (a + n))] else []) := by
  rw [seg_add f n a 1]
  congr 1
  unfold seg
  simp [seg]
theorem seg_congr {f g : Nat → Int} : ∀ (n a : Nat), (∀ i, a ≤ i → i < a + n → f i = g i) → seg f a n = seg g a n
  | 0, _, _ => rfl
  | n + 1, a, h => by
    unfold seg
    rw [h a (by omega) (by omega), seg_congr n (a + 1) (fun i h1 h2 => h i (by omega) (by omega))]
theorem seg_zero {f : Nat → Int} : ∀ (n a : Nat), (∀ i, a ≤ i → i < a + n → f i = 0) → seg f a n = []
  | 0, _, _ => rfl
  | n + 1, a, h => by
    unfold seg
    rw [h a (by omega) (by omega), seg_zero n (a + 1) (fun i h1 h2 => h i (by omega) (by omega))]
    rfl
theorem seg_in {f : Nat → Int} : ∀ (n a : Nat) (p : Int × Int), p ∈ seg f a n → (a : Int) ≤ p.1 ∧ p.1 < (a : Int) + n
  | 0, _, _, h => by cases h
  | n + 1, a, p, h => by
    unfold seg at h
    rcases List.mem_append.1 h with h | h
    · split at h
      · simp at h; subst h; simp; omega
      · cases h
    · have := seg_in n (a + 1) p h; omega
theorem seg_len {f : Nat → Int} : ∀ (n a : Nat), (seg f a n).length ≤ n
  | 0, _ => Nat.le_refl _
  | n + 1, a => by
    unfold seg
    rw [List.length_append]
    have := seg_len (f := f) n (a + 1)
    split <;> simp <;> omega
theorem seg_cut (f : Nat → Int) (m n : Nat) : seg f 0 (m + 1 + n) = seg f 0 m ++ ((if 0 < f m then [((m : Int), f m)] else []) ++ seg f (m + 1) n) := by
  rw [show m + 1 + n = m + (n + 1) by omega, seg_add f m 0 (n + 1), Nat.zero_add]
  rfl
theorem ofP_low : ∀ (ps : List (Int × Int)) (f : Nat → Int) (o : Nat) (lo hi l : Int) (i : Nat), 0 ≤ lo → rg ps lo hi l = true → (i : Int) < o + lo → ofP f o ps i = f i
  | [], _, _, _, _, _, _, _, _, _ => rfl
  | c :: r, f, o, lo, hi, l, i, h0, h, hi' => by
    unfold rg at h
    simp only [Bool.and_eq_true, inB, decide_eq_true_eq] at h
    rw [ofP_cons, ofP_low r _ o (c.1 + 1) hi l i (by omega) h.2.2 (by omega), updN_ne _ _ (by omega)]
theorem ofP_pos : ∀ (ps : List (Int × Int)) (f : Nat → Int) (o : Nat) (lo hi l : Int), rg ps lo hi l = true → (∀ i, 0 ≤ f i) → ∀ i, 0 ≤ ofP f o ps i
  | [], _, _, _, _, _, _, hf => hf
  | c :: r, f, o, lo, hi, l, h, hf => by
    unfold rg at h
    simp only [Bool.and_eq_true, inB, decide_eq_true_eq] at h
    rw [ofP_cons]
    refine ofP_pos r _ o (c.1 + 1) hi l h.2.2 (fun i => ?_)
    unfold updN
    split
    · omega
    · exact hf i
theorem seg_ofP : ∀ (ps : List (Int × Int)) (f : Nat → Int) (lo n : Nat) (l : Int), rg ps lo ((lo : Int) + n - 1) l = true → (∀ i, lo ≤ i → f i = 0) → seg (ofP f 0 ps) lo n = ps
  | [], f, lo, n, l, _, hf => seg_zero n lo (fun i h _ => hf i h)
  | c :: r, f, lo, n, l, h, hf => by
    have h' := h
    unfold rg at h
    simp only [Bool.and_eq_true, inB, decide_eq_true_eq] at h
    obtain ⟨m, hm⟩ : ∃ m : Nat, c.1 = (lo : Int) + m := ⟨(c.1 - lo).toNat, by omega⟩
    obtain ⟨q, hq⟩ : ∃ q, n = m + (1 + q) := ⟨n - m - 1, by omega⟩
    have hr : rg r (((lo + m + 1 : Nat) : Int)) (((lo + m + 1 : Nat) : Int) + q - 1) l = true := by
      have := h.2.2
      rw [show c.1 + 1 = ((lo + m + 1 : Nat) : Int) by omega, show (lo : Int) + n - 1 = ((lo + m + 1 : Nat) : Int) + q - 1 by omega] at this
      exact this
    have low : ∀ i, i < lo + m + 1 → ofP (updN f (0 + c.1.toNat) c.2) 0 r i = updN f (0 + c.1.toNat) c.2 i := fun i hi => ofP_low r _ 0 _ _ l i (by omega) hr (by omega)
    rw [ofP_cons, hq, seg_add, seg_add]
    rw [seg_zero (f := ofP (updN f (0 + c.1.toNat) c.2) 0 r) m lo (fun i h1 h2 => by rw [low i (by omega), updN_ne _ _ (by omega)]; exact hf i h1)]
    rw [show lo + m + 1 = lo + m + 1 from rfl, seg_ofP r (updN f (0 + c.1.toNat) c.2) (lo + m + 1) q l hr (fun i h1 => by rw [updN_ne _ _ (by omega)]; exact hf i (by omega))]
    have e : ofP (updN f (0 + c.1.toNat) c.2) 0 r (lo + m) = c.2 := by
      rw [low (lo + m) (by omega), show 0 + c.1.toNat = lo + m by omega, updN_at]
    unfold seg
    rw [e, if_pos (by omega)]
    simp only [seg, List.append_nil, List.nil_append, List.singleton_append, List.cons.injEq, and_true]
    apply Prod.ext
    · simp; omega
    · rfl
def shT (g : Nat → Int) : Nat → Int := fun i => g (8 + i)
theorem shT_upd (g : Nat → Int) (t : Nat) (v : Int) : shT (updN g (8 + t) v) = updN (shT g) t v := by
  funext i
  unfold shT updN
  by_cases h : i = t
  · subst h; simp
  · rw [if_neg h, if_neg (by omega)]
theorem shT_low (g : Nat → Int) {p : Nat} (v : Int) (h : p < 8) : shT (updN g p v) = shT g := by
  funext i
  unfold shT
  rw [updN_ne _ _ (by omega)]
theorem shT_ofP : ∀ (ps : List (Int × Int)) (f : Nat → Int), shT (ofP f 8 ps) = ofP (shT f) 0 ps
  | [], _ => rfl
  | c :: r, f => by rw [ofP_cons, ofP_cons, shT_ofP r, shT_upd, Nat.zero_add]
def drS (g : Nat → Int) : List (Int × Int) := seg g 0 8
def txS (g : Nat → Int) : List (Int × Int) := seg (shT g) 0 61
def toD (l : List (Int × Int)) : List DK := l.map fun p => ⟨p.1, p.2⟩
def toT (l : List (Int × Int)) : List TK := l.map fun p => ⟨p.1, p.2⟩
theorem ck_parts {r : DR} (h : okLR r = true) (h6 : r.k = 6) : ∃ ps ts, rc2 (numsT r.a) = some (ps, ts) ∧ rg ps 0 7 r.l = true ∧ rg ts 1 60 r.l = true := by
  rw [← okLS_eq] at h
  unfold okLS at h
  split at h
  · simp only [Bool.and_eq_true] at h
    have hc := h.2
    unfold ckB at hc
    split at hc
    · cases hc
    · rename_i ps ts e
      simp only [Bool.and_eq_true] at hc
      exact ⟨ps, ts, e, hc.2.1, hc.2.2⟩
  · cases h
theorem anC_told {r : DR} {ps ts : List (Int × Int)} {l : Int} (e : rc2 (numsT r.a) = some (ps, ts)) (h1 : rg ps 0 7 l = true) (h2 : rg ts 1 60 l = true) : drS (anC r) = ps ∧ txS (anC r) = ts := by
  unfold anC
  rw [e]
  simp only
  constructor
  · unfold drS
    rw [seg_congr (g := ofP (fun _ => 0) 0 ps) 8 0 (fun i _ hi => ofP_low ts _ 8 1 60 l i (by omega) h2 (by omega))]
    exact seg_ofP ps (fun _ => 0) 0 8 l h1 (fun _ _ => rfl)
  · unfold txS
    rw [shT_ofP]
    have hz : ∀ i, shT (ofP (fun _ => 0) 0 ps) i = 0 := fun i => by
      unfold shT
      have : ∀ (qs : List (Int × Int)) (f : Nat → Int) (lo : Int) (j : Nat), 0 ≤ lo → rg qs lo 7 l = true → 8 ≤ j → ofP f 0 qs j = f j := by
        intro qs
        induction qs with
        | nil => intros; rfl
        | cons c q ih =>
          intro f lo j h0 h hj
          unfold rg at h
          simp only [Bool.and_eq_true, inB, decide_eq_true_eq] at h
          rw [ofP_cons, ih _ (c.1 + 1) j (by omega) h.2.2 hj, updN_ne _ _ (by omega)]
      exact this ps _ 0 _ (by omega) h1 (by omega)
    rw [show (61 : Nat) = 1 + 60 from rfl, seg_add]
    rw [seg_zero (f := ofP (shT (ofP (fun _ => 0) 0 ps)) 0 ts) 1 0 (fun i _ hi => by rw [ofP_low ts _ 0 1 60 l i (by omega) h2 (by omega)]; exact hz i)]
    exact seg_ofP ts _ 1 60 l h2 (fun i _ => hz i)
theorem anC_pos {r : DR} (h : okLR r = true) (h6 : r.k = 6) : ∀ i, 0 ≤ anC r i := by
  obtain ⟨ps, ts, e, h1, h2⟩ := ck_parts h h6
  unfold anC
  rw [e]
  exact ofP_pos ts _ 8 1 60 r.l h2 (ofP_pos ps _ 0 0 7 r.l h1 (fun _ => Int.le_refl _))
theorem anM_pos {g : Nat → Int} {r : DR} (hl : 1 ≤ r.l) (hg : ∀ i, 0 ≤ g i) : ∀ i, 0 ≤ anM g r i := by
  intro i
  have h1 : ∀ j, 0 ≤ updN g (8 + r.t.toNat) (if endK r.k then 0 else r.l) j := fun j => by
    unfold updN
    split
    · split <;> omega
    · exact hg j
  unfold anM
  split
  · unfold updN
    split
    · omega
    · exact h1 i
  · exact h1 i
theorem anR_pos {L : List DR} (H : ∀ j, j < L.length → okLR (L.getD j zeroR) = true ∧ (L.getD j zeroR).l = (j : Int) + 1) : ∀ k, k ≤ L.length → ∀ i, 0 ≤ anR (L.take k) i
  | 0, _, i => by simp [anR]
  | k + 1, hk, i => by
    have ih := anR_pos H k (by omega)
    obtain ⟨h1, h2⟩ := H k (by omega)
    rw [anR_take (by omega)]
    unfold anS
    split
    · exact anC_pos h1 (by assumption) i
    · exact anM_pos (by omega) ih i
/-- A record's step, of the transactions. -/
theorem txS_step {g : Nat → Int} {r : DR} {t : Nat} (ht : r.t = (t : Int)) (ht60 : t ≤ 60) (hg : 0 ≤ r.g ∧ r.g < 8) (hl : 1 ≤ r.l) :
    txS g = seg (shT g) 0 t ++ ((if 0 < shT g t then [((t : Int), shT g t)] else []) ++ seg (shT g) (t + 1) (60 - t)) ∧
    txS (anM g r) = seg (shT g) 0 t ++ ((if endK r.k then [] else [((t : Int), r.l)]) ++ seg (shT g) (t + 1) (60 - t)) := by
  have c : ∀ f : Nat → Int, seg f 0 61 = seg f 0 t ++ ((if 0 < f t then [((t : Int), f t)] else []) ++ seg f (t + 1) (60 - t)) := fun f => by
    have := seg_cut f t (60 - t)
    rwa [show t + 1 + (60 - t) = 61 by omega] at this
  refine ⟨c _, ?_⟩
  have e : shT (anM g r) = updN (shT g) t (if endK r.k then 0 else r.l) := by
    unfold anM
    rw [ht, Int.toNat_natCast]
    split
    · rw [shT_low _ _ (by omega), shT_upd]
    · rw [shT_upd]
  unfold txS
  rw [e, c, updN_at]
  rw [seg_congr (g := shT g) t 0 (fun i _ hi => updN_ne _ _ (by omega)), seg_congr (g := shT g) (60 - t) (t + 1) (fun i h1 _ => updN_ne _ _ (by omega))]
  cases endK r.k
  · simp only [if_false, Bool.false_eq_true]
    rw [if_pos (by omega)]
  · simp
theorem drS_step {g : Nat → Int} {r : DR} {p : Nat} (hg : r.g = (p : Int)) (hp : p < 8) (hl : 1 ≤ r.l) (hpos : ∀ i, 0 ≤ g i) :
    drS g = seg g 0 p ++ ((if 0 < g p then [((p : Int), g p)] else []) ++ seg g (p + 1) (7 - p)) ∧
    (r.k = 2 ∨ r.k = 3 → drS (anM g r) = seg g 0 p ++ ((if 0 < g p then [((p : Int), g p)] else [((p : Int), r.l)]) ++ seg g (p + 1) (7 - p))) ∧
    (¬ (r.k = 2 ∨ r.k = 3) → drS (anM g r) = drS g) := by
  have c : ∀ f : Nat → Int, seg f 0 8 = seg f 0 p ++ ((if 0 < f p then [((p : Int), f p)] else []) ++ seg f (p + 1) (7 - p)) := fun f => by
    have := seg_cut f p (7 - p)
    rwa [show p + 1 + (7 - p) = 8 by omega] at this
  have t8 : ∀ (v : Int) (i : Nat), i < 8 → updN g (8 + r.t.toNat) v i = g i := fun v i hi => updN_ne _ _ (by omega)
  refine ⟨c _, fun hk => ?_, fun hk => ?_⟩
  · unfold drS anM
    rw [hg, Int.toNat_natCast]
    by_cases h0 : g p = 0
    · rw [if_pos ⟨hk, h0⟩, c, updN_at, if_pos (show 0 < r.l by omega), if_neg (show ¬ 0 < g p by omega)]
      rw [seg_congr (g := g) p 0 (fun i _ hi => by rw [updN_ne _ _ (by omega)]; exact t8 _ i (by omega)), seg_congr (g := g) (7 - p) (p + 1) (fun i h1 h2 => by rw [updN_ne _ _ (by omega)]; exact t8 _ i (by omega))]
    · rw [if_neg (fun h => h0 h.2), c, t8 _ p hp]
      have hp0 : 0 < g p := by have := hpos p; omega
      rw [if_pos hp0, if_pos hp0]
      rw [seg_congr (g := g) p 0 (fun i _ hi => t8 _ i (by omega)), seg_congr (g := g) (7 - p) (p + 1) (fun i h1 h2 => t8 _ i (by omega))]
  · unfold drS anM
    rw [if_neg (fun h => hk h.1)]
    exact seg_congr 8 0 (fun i _ hi => t8 _ i (by omega))

end Go.Proofs.Ytimdoaehlciecaa
