/-
  How locks that came in are read.
-/
import Derived.Test.YtfibdpfhfgnbiaaGreatDoorZzas
import Derived.ProofKit
import Derived.OpenShut
import Derived.SliceStrings
import Derived.ChangeSlices
import Derived.Lib.SmallJoins
import Derived.Deep.Slices
import Derived.Deep.Strs
namespace Go.Proofs.YtfibdpfhfgnbiaaGreatDoor.L
open Go Go.RowKit
attribute [local go_sem ↓] Go.wp_at_zero Go.wp_at_succ

theorem inT_or {s : B64} {x y : Int} (h0 : 0 ≤ x) (h1 : x < 64) (hy : 0 ≤ y) : inT (orT s (bitT x)) y = (inT s y || decide (x = y)) := by
  have := inT_bit h0 h1 y hy
  unfold inT at this ⊢
  unfold orT
  rw [BitVec.getLsbD_or, this]
theorem inT_or2 (s u : B64) (y : Int) : inT (orT s u) y = (inT s y || inT u y) := by unfold inT orT; rw [BitVec.getLsbD_or]
theorem inT_sub {s : B64} {x y : Int} (h0 : 0 ≤ x) (h1 : x < 64) (hy : 0 ≤ y) (hy1 : y < 64) : inT (subT s (bitT x)) y = (inT s y && !decide (x = y)) := by
  have := inT_bit h0 h1 y hy
  unfold inT at this ⊢
  unfold subT
  rw [BitVec.getLsbD_and, BitVec.getLsbD_not, this, decide_eq_true (by omega : y.toNat < 64), Bool.true_and]
theorem inT_hi {s : B64} {y : Int} (h : 64 ≤ y) : inT s y = false := by unfold inT; exact BitVec.getLsbD_of_ge s _ (by omega)
theorem ne0_iff {s : B64} : s ≠ 0#64 ↔ ∃ y : Int, 0 ≤ y ∧ y < 64 ∧ inT s y = true := by
  constructor
  · intro h
    by_cases hx : ∃ i, i < 64 ∧ s.getLsbD i = true
    · obtain ⟨i, hi, he⟩ := hx
      exact ⟨(i : Int), by omega, by omega, by unfold inT; rw [Int.toNat_natCast]; exact he⟩
    · exact absurd (BitVec.eq_of_getLsbD_eq (fun i hi => by
        rw [BitVec.getLsbD_zero]
        cases hc : s.getLsbD i
        · rfl
        · exact absurd ⟨i, hi, hc⟩ hx)) h
  · rintro ⟨y, h0, h1, hy⟩ rfl
    unfold inT at hy
    rw [BitVec.getLsbD_zero] at hy
    cases hy
theorem inT_zero (y : Int) : inT 0#64 y = false := by unfold inT; rw [BitVec.getLsbD_zero]
theorem fold_in (T : Int) (r m y : Int) (hy : 0 ≤ y) : ∀ (L : List LK) (f : FM), (∀ v ∈ L, okK v = true) →
    inT (L.foldl (updT T) f r m) y = (inT (f r m) y || L.any (fun v => decide (v.b = T) && decide (v.r = r) && decide (v.m = m) && decide (v.x = y)))
  | [], f, _ => by simp
  | v :: L, f, h => by
    rw [List.foldl_cons, fold_in T r m y hy L (updT T f v) (fun u hu => h u (List.mem_cons_of_mem _ hu)), List.any_cons, ← Bool.or_assoc]
    congr 1
    obtain ⟨vx, vb, vr, vm⟩ := v
    have hb := okK_bounds (h ⟨vx, vb, vr, vm⟩ (List.mem_cons_self))
    unfold updT
    by_cases h1 : vb = T
    · rw [if_pos h1]
      unfold putM
      by_cases h2 : r = vr
      · rw [if_pos h2]
        unfold addH
        by_cases h3 : m = vm
        · subst h1; subst h2; subst h3
          simp [inT_or (by omega : 0 ≤ vx) (by omega) hy]
        · have : ¬ vm = m := fun e => h3 e.symm
          subst h2
          simp [h3, this]
      · have : ¬ vr = r := fun e => h2 e.symm
        simp [h2, this]
    · simp [h1]
theorem agS_in (h : HM) (m y : Int) : ∀ k : Nat, inT (agS h m k) y = true ↔ ∃ j : Nat, 1 ≤ j ∧ j < k ∧ fitB j m = false ∧ inT (h j) y = true
  | 0 => by constructor
            · intro e; rw [show agS h m 0 = 0#64 from rfl, inT_zero] at e; cases e
            · rintro ⟨j, _, hj, _⟩; omega
  | k + 1 => by
    have ih := agS_in h m y k
    by_cases hk : k = 0
    · subst hk
      constructor
      · intro e; rw [show agS h m 1 = 0#64 from rfl, inT_zero] at e; cases e
      · rintro ⟨j, h1, hj, _⟩; omega
    · rw [agS_step h m k (by omega)]
      cases hf : fitB k m
      · rw [if_neg (by simp), inT_or2, Bool.or_eq_true, ih]
        constructor
        · rintro (⟨j, h1, h2, h3⟩ | e)
          · exact ⟨j, h1, by omega, h3⟩
          · exact ⟨k, by omega, by omega, hf, e⟩
        · rintro ⟨j, h1, h2, h3, h4⟩
          by_cases e : j = k
          · subst e; exact .inr h4
          · exact .inl ⟨j, h1, by omega, h3, h4⟩
      · rw [if_pos rfl, ih]
        constructor
        · rintro ⟨j, h1, h2, h3⟩; exact ⟨j, h1, by omega, h3⟩
        · rintro ⟨j, h1, h2, h3, h4⟩
          by_cases e : j = k
          · subst e; rw [hf] at h3; cases h3
          · exact ⟨j, h1, by omega, h3, h4⟩
theorem fitB_symm (a b : Int) : fitB a b = fitB b a := by
  unfold fitB
  have c1 : (b = 4 ∨ a = 4) = (a = 4 ∨ b = 4) := propext or_comm
  have c2 : (b = 1 ∨ a = 1) = (a = 1 ∨ b = 1) := propext or_comm
  simp only [c1, c2]
  by_cases h1 : a = 4 ∨ b = 4
  · rw [if_pos h1, if_pos h1]
  · rw [if_neg h1, if_neg h1]
    by_cases h2 : a = 1 ∨ b = 1
    · rw [if_pos h2, if_pos h2]
    · rw [if_neg h2, if_neg h2]
      by_cases e : a = b
      · rw [e]
      · rw [decide_eq_false e, decide_eq_false (fun h => e h.symm)]
/-- Two locks, the first one later, can't be held both. -/
def pairBad (a b : LK) : Bool := decide (a.b = b.b) && decide (a.r = b.r) && (decide (a = b) || (decide (a.x ≠ b.x) && !fitB a.m b.m))
theorem badT_iff (vs : List LK) (T : Int) (k : Nat) (v : LK) (hall : ∀ u ∈ vs, okK u = true) (hv : okK v = true) :
    badT T (fT vs T k) v = true ↔ v.b = T ∧ ∃ u ∈ vs.take k, pairBad v u = true := by
  have hL : ∀ u ∈ vs.take k, okK u = true := fun u hu => hall u (List.mem_of_mem_take hu)
  obtain ⟨vx, vb, vr, vm⟩ := v
  have bv := okK_bounds hv
  have hin : ∀ (m y : Int), 0 ≤ y → (inT (fT vs T k vr m) y = true ↔ ∃ u ∈ vs.take k, u.b = T ∧ u.r = vr ∧ u.m = m ∧ u.x = y) := fun m y hy => by
    have := fold_in T vr m y hy (vs.take k) (fun _ => zeroH) hL
    unfold fT
    rw [this, show zeroH m = 0#64 from rfl, inT_zero, Bool.false_or, List.any_eq_true]
    simp only [Bool.and_eq_true, decide_eq_true_eq, and_assoc]
  unfold badT
  rw [Bool.and_eq_true, decide_eq_true_eq]
  show vb = T ∧ _ ↔ vb = T ∧ _
  refine and_congr_right (fun hT => ?_)
  rw [Bool.or_eq_true, hin vm vx (by omega), decide_eq_true_eq, ne0_iff]
  constructor
  · rintro (⟨u, hu, h1, h2, h3, h4⟩ | ⟨y, y0, y1, hy⟩)
    · refine ⟨u, hu, ?_⟩
      obtain ⟨ux, ub, ur, um⟩ := u
      simp only at h1 h2 h3 h4
      subst h1; subst h2; subst h3; subst h4; subst hT
      simp [pairBad]
    · unfold agH at hy
      simp only at hy
      rw [inT_sub (x := vx) (by omega) (by omega) y0 y1, Bool.and_eq_true, agS_in] at hy
      obtain ⟨⟨j, j1, j5, hf, hj⟩, hne⟩ := hy
      rw [hin _ y y0] at hj
      obtain ⟨u, hu, h1, h2, h3, h4⟩ := hj
      refine ⟨u, hu, ?_⟩
      obtain ⟨ux, ub, ur, um⟩ := u
      simp only at h1 h2 h3 h4
      have hxy : ¬ vx = ux := by rw [h4]; simpa using hne
      have hff : fitB vm um = false := by rw [fitB_symm, h3]; exact hf
      subst h1; subst h2; subst hT
      simp [pairBad, hxy, hff]
  · rintro ⟨u, hu, hb⟩
    have bu := hL u hu
    obtain ⟨ux, ub, ur, um⟩ := u
    have bu := okK_bounds bu
    unfold pairBad at hb
    simp only [Bool.and_eq_true, Bool.or_eq_true, decide_eq_true_eq, Bool.not_eq_true'] at hb
    obtain ⟨⟨h1, h2⟩, h3 | ⟨h3, h4⟩⟩ := hb
    · left
      have e := LK.mk.inj h3
      exact ⟨⟨ux, ub, ur, um⟩, hu, h1.symm.trans hT, h2.symm, e.2.2.2.symm, e.1.symm⟩
    · right
      refine ⟨ux, by omega, by omega, ?_⟩
      unfold agH
      rw [inT_sub (x := vx) (by omega) (by omega) (by omega) (by omega), Bool.and_eq_true, agS_in]
      refine ⟨⟨um.toNat, by omega, by omega, ?_, ?_⟩, by simpa using h3⟩
      · rw [Int.toNat_of_nonneg (by omega), fitB_symm]; exact h4
      · rw [Int.toNat_of_nonneg (by omega), hin um ux (by omega)]
        exact ⟨⟨ux, ub, ur, um⟩, hu, h1.symm.trans hT, h2.symm, rfl, rfl⟩
theorem okT_iff (vs : List LK) (T : Int) : ∀ n, okT vs T n = true ↔ ∀ k, k < n → badT T (fT vs T k) (vs.getD k dK) = false
  | 0 => by constructor
            · intro _ k hk; omega
            · intro _; rfl
  | n + 1 => by
    show (okT vs T n && !badT T (fT vs T n) (vs.getD n dK)) = true ↔ _
    rw [Bool.and_eq_true, okT_iff vs T n, Bool.not_eq_true']
    constructor
    · rintro ⟨h1, h2⟩ k hk
      by_cases e : k = n
      · subst e; exact h2
      · exact h1 k (by omega)
    · intro h
      exact ⟨fun k hk => h k (by omega), h n (by omega)⟩
/-- What the specification asks, lock by lock. -/
def okP (vs : List LK) : Nat → Bool
  | 0 => true
  | i + 1 => okP vs i && (okK (vs.getD i dK) && !(vs.take i).any (pairBad (vs.getD i dK)))
theorem okP_iff (vs : List LK) : ∀ n, okP vs n = true ↔ ∀ k, k < n → okK (vs.getD k dK) = true ∧ (vs.take k).any (pairBad (vs.getD k dK)) = false
  | 0 => by constructor
            · intro _ k hk; omega
            · intro _; rfl
  | n + 1 => by
    show (okP vs n && (okK (vs.getD n dK) && !(vs.take n).any (pairBad (vs.getD n dK)))) = true ↔ _
    rw [Bool.and_eq_true, okP_iff vs n, Bool.and_eq_true, Bool.not_eq_true']
    constructor
    · rintro ⟨h1, h2⟩ k hk
      by_cases e : k = n
      · subst e; exact h2
      · exact h1 k (by omega)
    · intro h
      exact ⟨fun k hk => h k (by omega), h n (by omega)⟩
theorem getD_memK {vs : List LK} {k : Nat} (h : k < vs.length) : vs.getD k dK ∈ vs := by rw [List.getD_eq_getElem?_getD, List.getElem?_eq_getElem h]; exact List.getElem_mem h
theorem okUp4 (vs : List LK) : fitL vs = (okT vs 1 vs.length && okT vs 2 vs.length && okT vs 3 vs.length) := by
  show (((( true && (decide (0 = 0) || okT vs 0 vs.length)) && (decide (1 = 0) || okT vs 1 vs.length)) && (decide (2 = 0) || okT vs 2 vs.length)) && (decide (3 = 0) || okT vs 3 vs.length)) = _
  simp
theorem fit_pairs (vs : List LK) : okP vs vs.length = (vs.all okK && fitL vs) := by
  rw [Bool.eq_iff_iff, okP_iff, Bool.and_eq_true, okUp4, Bool.and_eq_true, Bool.and_eq_true, okT_iff, okT_iff, okT_iff, List.all_eq_true]
  constructor
  · intro h
    have hall : ∀ u ∈ vs, okK u = true := fun u hu => by
      obtain ⟨i, hi, e⟩ := List.getElem_of_mem hu
      have := (h i hi).1
      rw [List.getD_eq_getElem?_getD, List.getElem?_eq_getElem hi] at this
      simpa [e] using this
    have key : ∀ (T : Int) k, k < vs.length → badT T (fT vs T k) (vs.getD k dK) = false := fun T k hk => by
      cases hb : badT T (fT vs T k) (vs.getD k dK)
      · rfl
      · obtain ⟨_, u, hu, hp⟩ := (badT_iff vs T k _ hall (h k hk).1).1 hb
        have := (h k hk).2
        rw [List.any_eq_false] at this
        exact absurd hp (this u hu)
    exact ⟨hall, ⟨key 1, key 2⟩, key 3⟩
  · rintro ⟨hall, ⟨h1, h2⟩, h3⟩ k hk
    have hv := hall _ (getD_memK hk)
    refine ⟨hv, ?_⟩
    rw [List.any_eq_false]
    intro u hu hp
    have hb : 1 ≤ (vs.getD k dK).b ∧ (vs.getD k dK).b ≤ 3 := (okK_bounds hv).2.1
    have bad := (badT_iff vs (vs.getD k dK).b k _ hall hv).2 ⟨rfl, u, hu, hp⟩
    have hc : (vs.getD k dK).b = 1 ∨ (vs.getD k dK).b = 2 ∨ (vs.getD k dK).b = 3 := by omega
    rcases hc with e | e | e <;> rw [e] at bad
    · rw [h1 k hk] at bad; cases bad
    · rw [h2 k hk] at bad; cases bad
    · rw [h3 k hk] at bad; cases bad

end Go.Proofs.YtfibdpfhfgnbiaaGreatDoor.L
namespace Go.Proofs.YtfibdpfhfgnbiaaGreatDoor.L
open Go Go.RowKit
attribute [local go_sem ↓] Go.wp_at_zero Go.wp_at_succ

def okLs (vs : List LK) (ws : List WK) : Bool := decide (vs.length ≤ 60) && decide (ws.length ≤ 100) && vs.all okK && fitL vs && ws.all okW
set_option maxRecDepth 100000 in
set_option maxHeartbeats 8000000 in
theorem c_implLO (h : HL) (vs : List LK) (ws : List WK) (w : World) (r : RdL w h vs ws) (f0 : vs.length ≤ 1048576) (f1 : ws.length ≤ 1048576) (ht : FitH w) :
    Calls Tryz.prog 60 #[.agg #[.slice h.a0 vs.length h.c0, .slice h.a1 ws.length h.c1]] w fun e w' => e = .returned (.bool (okLs vs ws)) ∧ Below w.heap.size w w' := by
  have R : Hid (RdL w h vs ws) := r
  have HT : Hid (FitH w) := ht
  clear r ht
  obtain ⟨V, hV⟩ : ∃ V, w.alloc (.cells #[.slice h.a0 vs.length h.c0, .slice h.a1 ws.length h.c1] 51) = V := ⟨_, rfl⟩
  have B : Hid (Below w.heap.size w V) := by unfold Hid; rw [← hV]; exact (Below.refl _ _).alloc (Nat.le_refl _) _
  have X : Hid (Box V w.heap.size 51 #[.slice h.a0 vs.length h.c0, .slice h.a1 ws.length h.c1]) := by unfold Hid; rw [← hV]; exact Box.new _ _ _
  obtain ⟨x0, x1⟩ := box2 X.out
  by_cases n0 : vs.length ≤ 60
  case neg =>
    have c0 : ¬ (vs.length : Int) ≤ 60 := by omega
    have E : Hid (okLs vs ws = false) := by simp [Hid, okLs, n0]
    go_enter Tryz.func60, Tryz.ntmps60
    go_wp2
    go_ret
    exact ⟨ret_bool (by first | exact E.out.symm | (rw [E.out]; simp; omega)), B.out⟩
  have c0 : (vs.length : Int) ≤ 60 := by omega
  by_cases n1 : ws.length ≤ 100
  case neg =>
    have c1 : ¬ (ws.length : Int) ≤ 100 := by omega
    have E : Hid (okLs vs ws = false) := by simp [Hid, okLs, n1]
    go_enter Tryz.func60, Tryz.ntmps60
    go_wp2
    go_ret
    exact ⟨ret_bool (by first | exact E.out.symm | (rw [E.out]; simp; omega)), B.out⟩
  have c1 : (ws.length : Int) ≤ 100 := by omega
  obtain ⟨p1, h1⟩ : ∃ p, vs.all okK = p := ⟨_, rfl⟩
  obtain ⟨p2, h2⟩ : ∃ p, fitL vs = p := ⟨_, rfl⟩
  obtain ⟨p3, h3⟩ : ∃ p, ws.all okW = p := ⟨_, rfl⟩
  have C1 : Hid (Calls Tryz.prog 131 #[.slice h.a0 vs.length h.c0] V fun e w' => e = .returned (.bool p1) ∧ Below V.heap.size V w') := by unfold Hid; rw [← h1]; exact c_areK h.a0 _ h.c0 vs V (R.out.1.below B.out) f0
  have C2 : Hid (p1 = true → ∀ W, Below w.heap.size w W → Calls Tryz.prog 132 #[.slice h.a0 vs.length h.c0] W fun e w' => e = .returned (.bool p2) ∧ Below W.heap.size W w') := fun hp W hW => by rw [← h2]; exact c_fitting h.a0 _ h.c0 vs W (R.out.1.below hW) n0 (h1.trans hp) (HT.out.below hW)
  have C3 : Hid (∀ W, Below w.heap.size w W → Calls Tryz.prog 133 #[.slice h.a1 ws.length h.c1] W fun e w' => e = .returned (.bool p3) ∧ Below W.heap.size W w') := fun W hW => by rw [← h3]; exact c_areW h.a1 _ h.c1 ws W (R.out.2.below hW) f1
  have E : Hid (okLs vs ws = (p1 && p2 && p3)) := by unfold Hid okLs; rw [h1, h2, h3, decide_eq_true n0, decide_eq_true n1]; simp
  clear h1 h2 h3
  go_enter Tryz.func60, Tryz.ntmps60
  go_wp2_with fail
  refine C1.out.mono ?_
  rintro e w1 ⟨rfl, hb⟩
  have B1 : Hid (Below w.heap.size w w1) := B.out.trans (hb.mono B.out.size)
  have X1 : Hid (Box w1 w.heap.size 51 #[.slice h.a0 vs.length h.c0, .slice h.a1 ws.length h.c1]) := X.out.belowS hb
  clear hb x0 x1 hV X B C1
  obtain ⟨x0, x1⟩ := box2 X1.out
  cases p1
  · go_wp2
    go_ret
    exact ⟨ret_bool (by rw [E.out]; rfl), B1.out⟩
  go_wp2_with fail
  refine (C2.out (by first | rfl | trivial) w1 B1.out).mono ?_
  rintro e w2 ⟨rfl, hb⟩
  have B2 : Hid (Below w.heap.size w w2) := B1.out.trans (hb.mono B1.out.size)
  have X2 : Hid (Box w2 w.heap.size 51 #[.slice h.a0 vs.length h.c0, .slice h.a1 ws.length h.c1]) := X1.out.belowS hb
  clear hb x0 x1 X1 B1 C2
  obtain ⟨x0, x1⟩ := box2 X2.out
  cases p2
  · go_wp2
    go_ret
    exact ⟨ret_bool (by rw [E.out]; rfl), B2.out⟩
  go_wp2_with fail
  refine (C3.out w2 B2.out).mono ?_
  rintro e w3 ⟨rfl, hb⟩
  have B3 : Hid (Below w.heap.size w w3) := B2.out.trans (hb.mono B2.out.size)
  clear hb x0 x1 X2 B2 C3
  go_wp2
  go_ret
  exact ⟨ret_bool (by rw [E.out]; simp), B3.out⟩

end Go.Proofs.YtfibdpfhfgnbiaaGreatDoor.L
namespace Go.Proofs.YtfibdpfhfgnbiaaGreatDoor.L
open Go Go.RowKit
attribute [local go_sem ↓] Go.wp_at_zero Go.wp_at_succ

theorem okP_no {vs : List LK} {ws : List WK} {i : Nat} (hi : i < vs.length) (h : (okK (vs.getD i dK) && !(vs.take i).any (pairBad (vs.getD i dK))) = false) : okLs vs ws = false := by
  have hp : okP vs vs.length = false := by
    cases hc : okP vs vs.length
    · rfl
    · have := (okP_iff vs vs.length).1 hc i hi
      rw [this.1, this.2] at h
      simp at h
  rw [fit_pairs] at hp
  unfold okLs
  cases h1 : vs.all okK
  · simp
  · rw [h1, Bool.true_and] at hp
    rw [hp]; simp
theorem okP_yes {vs : List LK} {ws : List WK} (n0 : vs.length ≤ 60) (n1 : ws.length ≤ 100) (hp : okP vs vs.length = true) : okLs vs ws = ws.all okW := by
  rw [fit_pairs] at hp
  unfold okLs
  rw [decide_eq_true n0, decide_eq_true n1, Bool.true_and, Bool.true_and, hp, Bool.true_and]
theorem okW_no {vs : List LK} {ws : List WK} {i : Nat} (hi : i < ws.length) (h : okW (ws.getD i dW) = false) : okLs vs ws = false := by
  have : ws.all okW = false := by
    rw [List.all_eq_false]
    refine ⟨ws.getD i dW, ?_, by rw [h]; simp⟩
    rw [List.getD_eq_getElem?_getD, List.getElem?_eq_getElem hi]; exact List.getElem_mem hi
  unfold okLs
  rw [this]; simp
set_option maxRecDepth 100000 in
set_option maxHeartbeats 8000000 in
theorem c_specLO (h : HL) (vs : List LK) (ws : List WK) (w : World) (r : RdL w h vs ws) (f0 : vs.length ≤ 1048576) (f1 : ws.length ≤ 1048576) :
    Calls Tryz.prog 52 #[.agg #[.slice h.a0 vs.length h.c0, .slice h.a1 ws.length h.c1]] w fun e w' => e = .returned (.bool (okLs vs ws)) ∧ Below w.heap.size w w' := by
  have R : Hid (RdL w h vs ws) := r
  clear r
  obtain ⟨V, hV⟩ : ∃ V, w.alloc (.cells #[.slice h.a0 vs.length h.c0, .slice h.a1 ws.length h.c1] 51) = V := ⟨_, rfl⟩
  have B : Hid (Below w.heap.size w V) := by unfold Hid; rw [← hV]; exact (Below.refl _ _).alloc (Nat.le_refl _) _
  have X : Hid (Box V w.heap.size 51 #[.slice h.a0 vs.length h.c0, .slice h.a1 ws.length h.c1]) := by unfold Hid; rw [← hV]; exact Box.new _ _ _
  obtain ⟨x0, x1⟩ := box2 X.out
  by_cases n0 : vs.length ≤ 60
  case neg =>
    have c0 : (60 : Int) < (vs.length : Int) := by omega
    have E : Hid (okLs vs ws = false) := by simp [Hid, okLs, n0]
    go_enter Tryz.func52, Tryz.ntmps52
    go_wp2
    go_ret
    exact ⟨ret_bool E.out.symm, B.out⟩
  have c0 : ¬ (60 : Int) < (vs.length : Int) := by omega
  by_cases n1 : ws.length ≤ 100
  case neg =>
    have c1 : (100 : Int) < (ws.length : Int) := by omega
    have E : Hid (okLs vs ws = false) := by simp [Hid, okLs, n1]
    go_enter Tryz.func52, Tryz.ntmps52
    go_wp2
    go_ret
    exact ⟨ret_bool E.out.symm, B.out⟩
  have c1 : ¬ (100 : Int) < (ws.length : Int) := by omega
  go_enter Tryz.func52, Tryz.ntmps52
  go_wp2
  go_loopw [3] (fun s wr => ∃ i : Nat, i ≤ vs.length ∧ s = .int .i64 (i : Int) ∧ Hid (okP vs i = true) ∧ Hid (Below V.heap.size V wr)) (fun s _ => vs.length - (intOf s).toNat)
  case atStart => exact ⟨0, by omega, rfl, rfl, Below.refl _ _⟩
  case round =>
    obtain ⟨i, hi, rfl, HP, HB⟩ := hrel
    have Xr := X.out.belowS HB.out
    have HBw : Hid (Below w.heap.size w wr) := B.out.trans (HB.out.mono B.out.size)
    clear x0 x1
    obtain ⟨x0, x1⟩ := box2 Xr
    by_cases hlt : i < vs.length
    · obtain ⟨hl, hcs⟩ := R.out.1
      obtain ⟨b, off, ha, hbl, hc⟩ := hcs (by omega)
      rw [ha] at x0
      have HAD : Hid (h.a0 = some ⟨b, off, none⟩) := ha
      clear ha
      obtain ⟨⟨ax, ab, ar, am⟩, hv⟩ : ∃ v, v = vs.getD i dK := ⟨_, rfl⟩
      obtain ⟨d0, d1, d2, d3⟩ := hc i hlt
      rw [← hv] at d0 d1 d2 d3
      have e0 : wr.cell? ⟨b, off + i * 4, none⟩ = some (.int .i64 ax) := by rw [HBw.out.cell (p := ⟨b, off + i * 4, none⟩) hbl, d0]
      have e1 : wr.cell? ⟨b, off + i * 4 + 1, none⟩ = some (.int .i64 ab) := by rw [HBw.out.cell (p := ⟨b, off + i * 4 + 1, none⟩) hbl, d1]
      have e2 : wr.cell? ⟨b, off + i * 4 + 2, none⟩ = some (.int .i64 ar) := by rw [HBw.out.cell (p := ⟨b, off + i * 4 + 2, none⟩) hbl, d2]
      have e3 : wr.cell? ⟨b, off + i * 4 + 3, none⟩ = some (.int .i64 am) := by rw [HBw.out.cell (p := ⟨b, off + i * 4 + 3, none⟩) hbl, d3]
      have HV : Hid ((⟨ax, ab, ar, am⟩ : LK) = vs.getD i dK) := hv
      have HC : Hid (∀ k, k < vs.length → w.cell? ⟨b, off + k * 4, none⟩ = some (.int .i64 (vs.getD k dK).x) ∧ w.cell? ⟨b, off + k * 4 + 1, none⟩ = some (.int .i64 (vs.getD k dK).b) ∧ w.cell? ⟨b, off + k * 4 + 2, none⟩ = some (.int .i64 (vs.getD k dK).r) ∧ w.cell? ⟨b, off + k * 4 + 3, none⟩ = some (.int .i64 (vs.getD k dK).m)) := hc
      have HBL : Hid (b < w.heap.size) := hbl
      obtain ⟨w2, hw2⟩ : ∃ W, wr.alloc (.cells #[.int .i64 ax, .int .i64 ab, .int .i64 ar, .int .i64 am] 98) = W := ⟨_, rfl⟩
      have hb2 : Below wr.heap.size wr w2 := by rw [← hw2]; exact (Below.refl _ _).alloc (Nat.le_refl _) _
      have A2 : Hid (Box w2 wr.heap.size 98 #[.int .i64 ax, .int .i64 ab, .int .i64 ar, .int .i64 am]) := by unfold Hid; rw [← hw2]; exact Box.new _ _ _
      have X2 : Hid (Box w2 w.heap.size 51 #[.slice h.a0 vs.length h.c0, .slice h.a1 ws.length h.c1]) := Xr.belowS hb2
      have B2 : Hid (Below w.heap.size w w2) := HBw.out.trans (hb2.mono HBw.out.size)
      have V2 : Hid (Below V.heap.size V w2) := HB.out.trans (hb2.mono HB.out.size)
      have q0 := A2.out.cell 0
      have q1 := A2.out.cell 1
      have q2 := A2.out.cell 2
      have q3 := A2.out.cell 3
      simp only [List.getElem?_toArray, List.getElem?_cons_zero, List.getElem?_cons_succ] at q0 q1 q2 q3
      obtain ⟨p, hp⟩ : ∃ p, okK ⟨ax, ab, ar, am⟩ = p := ⟨_, rfl⟩
      have CK : Hid (∀ W : World, Calls Tryz.prog 120 #[.int .i64 ax, .int .i64 ab, .int .i64 ar, .int .i64 am] W fun e w' => e = .returned (.bool p) ∧ w' = W) := fun W => by rw [← hp]; exact c_ask ax ab ar am W
      have NO : Hid ((p && !(vs.take i).any (pairBad ⟨ax, ab, ar, am⟩)) = false → okLs vs ws = false) := fun hh => okP_no hlt (by rw [← hv, hp]; exact hh)
      have YES : Hid (p = true → (vs.take i).any (pairBad ⟨ax, ab, ar, am⟩) = false → okP vs (i + 1) = true) := fun h1 h2 => by
        show (okP vs i && (okK (vs.getD i dK) && !(vs.take i).any (pairBad (vs.getD i dK)))) = true
        rw [HP.out, ← hv, hp, h1, h2]; rfl
      clear hc hcs d0 d1 d2 d3 hv hp hb2 Xr
      go_wp2_with fail
      refine (CK.out w2).mono ?_
      rintro e wq ⟨rfl, hwq⟩; rw [hwq]; clear hwq
      cases p
      · go_wp2
        go_ret
        exact ⟨ret_bool (NO.out (by first | rfl | trivial)).symm, B2.out⟩
      go_wp2
      go_loopw [5] (fun s wr => ∃ k : Nat, k ≤ i ∧ s = .int .i64 (k : Int) ∧ Hid ((vs.take k).any (pairBad ⟨ax, ab, ar, am⟩) = false) ∧ Hid (Below w2.heap.size w2 wr)) (fun s _ => i - (intOf s).toNat)
      case atStart => exact ⟨0, by omega, rfl, rfl, Below.refl _ _⟩
      case round =>
        obtain ⟨k, hk, rfl, HK, HB2⟩ := hrel
        have Ar := A2.out.belowS HB2.out
        have Xr := X2.out.belowS HB2.out
        have HBr : Hid (Below w.heap.size w wr) := B2.out.trans (HB2.out.mono B2.out.size)
        clear x0 x1 q0 q1 q2 q3 e0 e1 e2 e3
        obtain ⟨x0, x1⟩ := box2 Xr
        rw [HAD.out] at x0
        by_cases hkl : k < i
        · obtain ⟨⟨bx, bb, br, bm⟩, hv⟩ : ∃ v, v = vs.getD k dK := ⟨_, rfl⟩
          obtain ⟨d0, d1, d2, d3⟩ := HC.out k (by omega)
          rw [← hv] at d0 d1 d2 d3
          have hbl := HBL.out
          have e0 : wr.cell? ⟨b, off + k * 4, none⟩ = some (.int .i64 bx) := by rw [HBr.out.cell (p := ⟨b, off + k * 4, none⟩) hbl, d0]
          have e1 : wr.cell? ⟨b, off + k * 4 + 1, none⟩ = some (.int .i64 bb) := by rw [HBr.out.cell (p := ⟨b, off + k * 4 + 1, none⟩) hbl, d1]
          have e2 : wr.cell? ⟨b, off + k * 4 + 2, none⟩ = some (.int .i64 br) := by rw [HBr.out.cell (p := ⟨b, off + k * 4 + 2, none⟩) hbl, d2]
          have e3 : wr.cell? ⟨b, off + k * 4 + 3, none⟩ = some (.int .i64 bm) := by rw [HBr.out.cell (p := ⟨b, off + k * 4 + 3, none⟩) hbl, d3]
          have HS : Hid ((vs.take (k + 1)).any (pairBad ⟨ax, ab, ar, am⟩) = ((vs.take k).any (pairBad ⟨ax, ab, ar, am⟩) || pairBad ⟨ax, ab, ar, am⟩ ⟨bx, bb, br, bm⟩)) := by
            unfold Hid
            have hk' : k < vs.length := by omega
            rw [List.take_add_one, List.any_append, List.getElem?_eq_getElem hk', hv, List.getD_eq_getElem?_getD, List.getElem?_eq_getElem hk']
            simp
          have NOB : Hid (pairBad ⟨ax, ab, ar, am⟩ ⟨bx, bb, br, bm⟩ = true → okLs vs ws = false) := fun hh => NO.out (by
            have : (vs.take i).any (pairBad ⟨ax, ab, ar, am⟩) = true := by
              rw [List.any_eq_true]
              refine ⟨vs.getD k dK, ?_, by rw [← hv]; exact hh⟩
              have hk' : k < vs.length := by omega
              rw [List.getD_eq_getElem?_getD, List.getElem?_eq_getElem hk']
              exact List.mem_take_iff_getElem.2 ⟨k, by omega, rfl⟩
            rw [this]; rfl)
          obtain ⟨w3, hw3⟩ : ∃ W, wr.alloc (.cells #[.int .i64 bx, .int .i64 bb, .int .i64 br, .int .i64 bm] 98) = W := ⟨_, rfl⟩
          have hb3 : Below wr.heap.size wr w3 := by rw [← hw3]; exact (Below.refl _ _).alloc (Nat.le_refl _) _
          have Br : Box w3 wr.heap.size 98 #[.int .i64 bx, .int .i64 bb, .int .i64 br, .int .i64 bm] := by rw [← hw3]; exact Box.new _ _ _
          have A3 := Ar.belowS hb3
          have HB3 : Hid (Below w2.heap.size w2 w3) := HB2.out.trans (hb3.mono HB2.out.size)
          have HW3 : Hid (Below w.heap.size w w3) := HBr.out.trans (hb3.mono HBr.out.size)
          have q0 := A3.cell 0
          have q1 := A3.cell 1
          have q2 := A3.cell 2
          have q3 := A3.cell 3
          have r0 := Br.cell 0
          have r1 := Br.cell 1
          have r2 := Br.cell 2
          have r3 := Br.cell 3
          simp only [List.getElem?_toArray, List.getElem?_cons_zero, List.getElem?_cons_succ] at q0 q1 q2 q3 r0 r1 r2 r3
          clear d0 d1 d2 d3 hv hb3 Ar Br A3 Xr hbl
          by_cases eb : ab = bb
          case neg =>
            have cb : (ab == bb) = false := by simpa using eb
            have PF : Hid (pairBad (⟨ax, ab, ar, am⟩ : LK) ⟨bx, bb, br, bm⟩ = false) := by simp [Hid, pairBad, eb]
            go_wp2
            go_roundw
            case rel => exact ⟨k + 1, by omega, by go_num, by unfold Hid; rw [HS.out, HK.out, PF.out]; rfl, HB3⟩
            case measure => simp [intOf]; omega
          subst eb
          by_cases er : ar = br
          case neg =>
            have cr : (ar == br) = false := by simpa using er
            have PF : Hid (pairBad (⟨ax, ab, ar, am⟩ : LK) ⟨bx, ab, br, bm⟩ = false) := by simp [Hid, pairBad, er]
            go_wp2
            go_roundw
            case rel => exact ⟨k + 1, by omega, by go_num, by unfold Hid; rw [HS.out, HK.out, PF.out]; rfl, HB3⟩
            case measure => simp [intOf]; omega
          subst er
          by_cases ex : ax = bx
          · subst ex
            have cx : (ax != ax) = false := by simp
            by_cases em : am = bm
            · subst em
              have PF : Hid (pairBad (⟨ax, ab, ar, am⟩ : LK) ⟨ax, ab, ar, am⟩ = true) := by simp [Hid, pairBad]
              go_wp2
              go_ret
              exact ⟨ret_bool (NOB.out PF.out).symm, HW3.out⟩
            · have cm : (am == bm) = false := by simpa using em
              have PF : Hid (pairBad (⟨ax, ab, ar, am⟩ : LK) ⟨ax, ab, ar, bm⟩ = false) := by simp [Hid, pairBad, em]
              go_wp2
              go_roundw
              case rel => exact ⟨k + 1, by omega, by go_num, by unfold Hid; rw [HS.out, HK.out, PF.out]; rfl, HB3⟩
              case measure => simp [intOf]; omega
          · have cx : (ax != bx) = true := by simpa using ex
            have cx2 : (ax == bx) = false := by simpa using ex
            obtain ⟨f, hf⟩ : ∃ f, fitB am bm = f := ⟨_, rfl⟩
            have CF : Hid (∀ W : World, Calls Tryz.prog 121 #[.int .i64 am, .int .i64 bm] W fun e w' => e = .returned (.bool f) ∧ w' = W) := fun W => by rw [← hf]; exact c_fit am bm W
            have PF : Hid (pairBad (⟨ax, ab, ar, am⟩ : LK) ⟨bx, ab, ar, bm⟩ = !f) := by simp [Hid, pairBad, ex, hf]
            clear hf
            go_wp2_with fail
            refine (CF.out w3).mono ?_
            rintro e wq ⟨rfl, hwq⟩; rw [hwq]; clear hwq
            cases f
            · go_wp2
              go_ret
              exact ⟨ret_bool (NOB.out PF.out).symm, HW3.out⟩
            · go_wp2
              go_roundw
              case rel => exact ⟨k + 1, by omega, by go_num, by unfold Hid; rw [HS.out, HK.out, PF.out]; rfl, HB3⟩
              case measure => simp [intOf]; omega
        · have e : k = i := by omega
          rw [e] at HK
          have cge : ¬ (k : Int) < (i : Int) := by omega
          clear e
          have HVr : Hid (Below V.heap.size V wr) := V2.out.trans (HB2.out.mono V2.out.size)
          go_wp2
          go_roundw
          case rel => exact ⟨i + 1, by omega, by go_num, YES.out (by first | rfl | trivial) HK.out, HVr⟩
          case measure => simp [intOf]; omega
    · have e : i = vs.length := by omega
      rw [e] at HP
      have cge : ¬ (i : Int) < (vs.length : Int) := by omega
      clear e
      have AL : Hid (okLs vs ws = ws.all okW) := okP_yes n0 n1 HP.out
      go_wp2
      go_loopw [7] (fun s wr => ∃ k : Nat, k ≤ ws.length ∧ s = .int .i64 (k : Int) ∧ Hid ((ws.take k).all okW = true) ∧ Hid (Below V.heap.size V wr)) (fun s _ => ws.length - (intOf s).toNat)
      case atStart => exact ⟨0, by omega, rfl, rfl, HB⟩
      case round =>
        obtain ⟨k, hk, rfl, HK, HB2⟩ := hrel
        have Xr := X.out.belowS HB2.out
        have HBr : Hid (Below w.heap.size w wr) := B.out.trans (HB2.out.mono B.out.size)
        clear x0 x1
        obtain ⟨x0, x1⟩ := box2 Xr
        by_cases hkl : k < ws.length
        · obtain ⟨hl, hcs⟩ := R.out.2
          obtain ⟨b, off, ha, hbl, hc⟩ := hcs (by omega)
          rw [ha] at x1
          clear ha
          obtain ⟨⟨vx, vf⟩, hv⟩ : ∃ v, v = ws.getD k dW := ⟨_, rfl⟩
          obtain ⟨d0, d1⟩ := hc k hkl
          rw [← hv] at d0 d1
          have e0 : wr.cell? ⟨b, off + k * 2, none⟩ = some (.int .i64 vx) := by rw [HBr.out.cell (p := ⟨b, off + k * 2, none⟩) hbl, d0]
          have e1 : wr.cell? ⟨b, off + k * 2 + 1, none⟩ = some (.int .i64 vf) := by rw [HBr.out.cell (p := ⟨b, off + k * 2 + 1, none⟩) hbl, d1]
          have HS : Hid (okW ⟨vx, vf⟩ = true → (ws.take (k + 1)).all okW = true) := fun hh => by
            rw [List.take_add_one, List.all_append, HK.out, List.getElem?_eq_getElem hkl]
            rw [List.getD_eq_getElem?_getD, List.getElem?_eq_getElem hkl] at hv
            simp only [Option.getD_some] at hv
            simp [← hv, hh]
          have NW : Hid (okW ⟨vx, vf⟩ = false → okLs vs ws = false) := fun hh => okW_no hkl (by rw [← hv]; exact hh)
          obtain ⟨w3, hw3⟩ : ∃ W, wr.alloc (.cells #[.int .i64 vx, .int .i64 vf] 100) = W := ⟨_, rfl⟩
          have hb3 : Below wr.heap.size wr w3 := by rw [← hw3]; exact (Below.refl _ _).alloc (Nat.le_refl _) _
          have Br : Box w3 wr.heap.size 100 #[.int .i64 vx, .int .i64 vf] := by rw [← hw3]; exact Box.new _ _ _
          have HB3 : Hid (Below V.heap.size V w3) := HB2.out.trans (hb3.mono HB2.out.size)
          have HW3 : Hid (Below w.heap.size w w3) := HBr.out.trans (hb3.mono HBr.out.size)
          obtain ⟨r0, r1⟩ := box2 Br
          obtain ⟨p1, h1⟩ : ∃ p, inB vx 1 60 = p := ⟨_, rfl⟩
          obtain ⟨p2, h2⟩ : ∃ p, inB vf 1 60 = p := ⟨_, rfl⟩
          have C1 : Hid (∀ W : World, Calls Tryz.prog 53 #[.int .i64 vx, .int .i64 1, .int .i64 60] W fun e w' => e = .returned (.bool p1) ∧ w' = W) := fun W => by rw [← h1]; exact c_in vx 1 60 W
          have C2 : Hid (∀ W : World, Calls Tryz.prog 53 #[.int .i64 vf, .int .i64 1, .int .i64 60] W fun e w' => e = .returned (.bool p2) ∧ w' = W) := fun W => by rw [← h2]; exact c_in vf 1 60 W
          have EW : Hid (okW ⟨vx, vf⟩ = (p1 && p2 && decide (vx ≠ vf))) := by unfold Hid okW; rw [h1, h2]
          clear h1 h2 hc hcs d0 d1 hv hb3 Br Xr
          go_wp2_with fail
          refine (C1.out w3).mono ?_
          rintro e wq ⟨rfl, hwq⟩; rw [hwq]; clear hwq
          cases p1
          · go_wp2
            go_ret
            exact ⟨ret_bool (NW.out (by rw [EW.out]; rfl)).symm, HW3.out⟩
          go_wp2_with fail
          refine (C2.out w3).mono ?_
          rintro e wq ⟨rfl, hwq⟩; rw [hwq]; clear hwq
          cases p2
          · go_wp2
            go_ret
            exact ⟨ret_bool (NW.out (by rw [EW.out]; rfl)).symm, HW3.out⟩
          by_cases ex : vx = vf
          · subst ex
            go_wp2
            go_ret
            exact ⟨ret_bool (NW.out (by rw [EW.out]; simp)).symm, HW3.out⟩
          · have cx : (vx == vf) = false := by simpa using ex
            go_wp2
            go_roundw
            case rel => exact ⟨k + 1, by omega, by go_num, HS.out (by rw [EW.out, decide_eq_true ex]; rfl), HB3⟩
            case measure => simp [intOf]; omega
        · have e : k = ws.length := by omega
          have HA := HK.out
          rw [e, List.take_length] at HA
          have cge2 : ¬ (k : Int) < (ws.length : Int) := by omega
          clear e
          have E : Hid (okLs vs ws = true) := AL.out.trans HA
          clear HA
          go_wp2
          go_ret
          exact ⟨ret_bool E.out.symm, HBr.out⟩

end Go.Proofs.YtfibdpfhfgnbiaaGreatDoor.L
namespace Go.Proofs.YtfibdpfhfgnbiaaGreatDoor.L
open Go Go.RowKit Go.ChangeShapes Go.WideShapes Go.Deep Go.WideElems
attribute [local go_sem ↓] Go.wp_at_zero Go.wp_at_succ

theorem open_K {H : Type} {enc : TypeId × Value → H} {P : Program} {w : World} {base : Nat} {spare : Nat → Bool} {held : Bool} {t e : TypeId} {fuel : Nat} {cs : List Value} {x : DataW H × List MemPlace} {f0 f1 f2 f3 : Field}
    (ht : P.underlying t = some (.slice e)) (hs : P.underlying e = some (.struct #[f0, f1, f2, f3])) (hone : oneCellFields P #[f0, f1, f2, f3] = true) (hC : P.cellsOf e = 4)
    (u0 : P.underlying f0.type = some (.int .i64)) (u1 : P.underlying f1.type = some (.int .i64)) (u2 : P.underlying f2.type = some (.int .i64)) (u3 : P.underlying f3.type = some (.int .i64))
    (h : DataW.trod enc P w base spare held fuel t cs = some x) :
    cs = [.slice none 0 0] ∨ ∃ (a : Addr) (len cap : Nat) (vs : List LK), cs = [.slice (some a) len cap] ∧ len ≤ maxLen ∧ RdK w (some a) len vs := by
  rcases Go.Deep.open_slice ht h with ⟨h0, _⟩ | ⟨a, len, cap, m, n, D, Pl, hcs, hb, hl, hm, he, hx, hc⟩
  · exact .inl h0
  · right
    have hlm : len ≤ m := by rw [he]; split <;> omega
    have hone' : ∀ i, i < len → ∃ v : LK, w.cell? (a.add (i * 4)) = some (.int .i64 v.x) ∧ w.cell? (a.add (i * 4 + 1)) = some (.int .i64 v.b) ∧ w.cell? (a.add (i * 4 + 2)) = some (.int .i64 v.r) ∧ w.cell? (a.add (i * 4 + 3)) = some (.int .i64 v.m) := by
      intro i hi
      obtain ⟨cs', h1, h2⟩ := hc i (by omega)
      rw [hC] at h1
      obtain ⟨_, hl3, hg⟩ := World.cells?_some h1
      obtain ⟨xs, n', _, _, _, hlen, hf⟩ := DataW.trod_struct hs h2
      obtain ⟨o0, k0⟩ := hone_of hone 0 f0 rfl
      obtain ⟨o1, k1⟩ := hone_of hone 1 f1 rfl
      obtain ⟨o2, k2⟩ := hone_of hone 2 f2 rfl
      obtain ⟨o3, k3⟩ := hone_of hone 3 f3 rfl
      match xs, hlen, cs', hl3 with
      | [y0, y1, y2, y3], _, [c0, c1, c2, c3], _ =>
        have g0 := hf 0 f0 rfl
        have g0' : DataW.trod enc P w base spare held n' f0.type [c0] = some y0 := by simpa [o0, k0] using g0
        obtain ⟨z0, e0, _, _⟩ := DataW.trod_int u0 g0'
        simp at e0
        subst e0
        have q0 := hg 0 (by omega)
        rw [Go.Deep.add_add] at q0
        have g1 := hf 1 f1 rfl
        have g1' : DataW.trod enc P w base spare held n' f1.type [c1] = some y1 := by simpa [o1, k1] using g1
        obtain ⟨z1, e1, _, _⟩ := DataW.trod_int u1 g1'
        simp at e1
        subst e1
        have q1 := hg 1 (by omega)
        rw [Go.Deep.add_add] at q1
        have g2 := hf 2 f2 rfl
        have g2' : DataW.trod enc P w base spare held n' f2.type [c2] = some y2 := by simpa [o2, k2] using g2
        obtain ⟨z2, e2, _, _⟩ := DataW.trod_int u2 g2'
        simp at e2
        subst e2
        have q2 := hg 2 (by omega)
        rw [Go.Deep.add_add] at q2
        have g3 := hf 3 f3 rfl
        have g3' : DataW.trod enc P w base spare held n' f3.type [c3] = some y3 := by simpa [o3, k3] using g3
        obtain ⟨z3, e3, _, _⟩ := DataW.trod_int u3 g3'
        simp at e3
        subst e3
        have q3 := hg 3 (by omega)
        rw [Go.Deep.add_add] at q3
        exact ⟨⟨z0, z1, z2, z3⟩, q0, q1, q2, q3⟩
    haveI : Inhabited LK := ⟨dK⟩
    obtain ⟨f, hf⟩ := Go.Deep.choose_lt (α := LK) hone'
    refine ⟨a, len, cap, (List.range len).map f, hcs, by omega, ⟨by simp, fun hpos => ?_⟩⟩
    obtain ⟨b, off, spot⟩ := a
    have hc0 := (hf 0 hpos).1
    have hspot : spot = none := by simpa [Addr.add] using World.cell?_spot hc0
    subst hspot
    refine ⟨b, off, rfl, World.block_lt_of_cell? w ⟨b, off, none⟩ (by have := hc0; rwa [addr_add, show off + 0 * 4 = off by omega] at this), fun i hi => ?_⟩
    have hg := hf i hi
    rw [addr_add, addr_add, addr_add, addr_add] at hg
    have hd : ((List.range len).map f).getD i dK = f i := by rw [List.getD_eq_getElem?_getD, List.getElem?_map, List.getElem?_range hi]; rfl
    rw [hd]
    exact hg

theorem open_W {H : Type} {enc : TypeId × Value → H} {P : Program} {w : World} {base : Nat} {spare : Nat → Bool} {held : Bool} {t e : TypeId} {fuel : Nat} {cs : List Value} {x : DataW H × List MemPlace} {f0 f1 : Field}
    (ht : P.underlying t = some (.slice e)) (hs : P.underlying e = some (.struct #[f0, f1])) (hone : oneCellFields P #[f0, f1] = true) (hC : P.cellsOf e = 2)
    (u0 : P.underlying f0.type = some (.int .i64)) (u1 : P.underlying f1.type = some (.int .i64))
    (h : DataW.trod enc P w base spare held fuel t cs = some x) :
    cs = [.slice none 0 0] ∨ ∃ (a : Addr) (len cap : Nat) (vs : List WK), cs = [.slice (some a) len cap] ∧ len ≤ maxLen ∧ RdW w (some a) len vs := by
  rcases Go.Deep.open_slice ht h with ⟨h0, _⟩ | ⟨a, len, cap, m, n, D, Pl, hcs, hb, hl, hm, he, hx, hc⟩
  · exact .inl h0
  · right
    have hlm : len ≤ m := by rw [he]; split <;> omega
    have hone' : ∀ i, i < len → ∃ v : WK, w.cell? (a.add (i * 2)) = some (.int .i64 v.x) ∧ w.cell? (a.add (i * 2 + 1)) = some (.int .i64 v.f) := by
      intro i hi
      obtain ⟨cs', h1, h2⟩ := hc i (by omega)
      rw [hC] at h1
      obtain ⟨_, hl3, hg⟩ := World.cells?_some h1
      obtain ⟨xs, n', _, _, _, hlen, hf⟩ := DataW.trod_struct hs h2
      obtain ⟨o0, k0⟩ := hone_of hone 0 f0 rfl
      obtain ⟨o1, k1⟩ := hone_of hone 1 f1 rfl
      match xs, hlen, cs', hl3 with
      | [y0, y1], _, [c0, c1], _ =>
        have g0 := hf 0 f0 rfl
        have g0' : DataW.trod enc P w base spare held n' f0.type [c0] = some y0 := by simpa [o0, k0] using g0
        obtain ⟨z0, e0, _, _⟩ := DataW.trod_int u0 g0'
        simp at e0
        subst e0
        have q0 := hg 0 (by omega)
        rw [Go.Deep.add_add] at q0
        have g1 := hf 1 f1 rfl
        have g1' : DataW.trod enc P w base spare held n' f1.type [c1] = some y1 := by simpa [o1, k1] using g1
        obtain ⟨z1, e1, _, _⟩ := DataW.trod_int u1 g1'
        simp at e1
        subst e1
        have q1 := hg 1 (by omega)
        rw [Go.Deep.add_add] at q1
        exact ⟨⟨z0, z1⟩, q0, q1⟩
    haveI : Inhabited WK := ⟨dW⟩
    obtain ⟨f, hf⟩ := Go.Deep.choose_lt (α := WK) hone'
    refine ⟨a, len, cap, (List.range len).map f, hcs, by omega, ⟨by simp, fun hpos => ?_⟩⟩
    obtain ⟨b, off, spot⟩ := a
    have hc0 := (hf 0 hpos).1
    have hspot : spot = none := by simpa [Addr.add] using World.cell?_spot hc0
    subst hspot
    refine ⟨b, off, rfl, World.block_lt_of_cell? w ⟨b, off, none⟩ (by have := hc0; rwa [addr_add, show off + 0 * 2 = off by omega] at this), fun i hi => ?_⟩
    have hg := hf i hi
    rw [addr_add, addr_add] at hg
    have hd : ((List.range len).map f).getD i dW = f i := by rw [List.getD_eq_getElem?_getD, List.getElem?_map, List.getElem?_range hi]; rfl
    rw [hd]
    exact hg

set_option maxRecDepth 100000 in
theorem open_locks {H : Type} {enc : TypeId × Value → H} {w : World} {held : Bool} {r : Reach} {b0 : Nat} {v : Value} {d : DataW H} {p : List MemPlace} (hv : Value.okWide Tryz.prog w r b0 35 v) (h : DataW.Trod enc Tryz.prog w 0 (fun _ => true) held 35 v d p) :
    ∃ (h : HL) (vs : List LK) (ws : List WK), v = .agg #[.slice h.a0 vs.length h.c0, .slice h.a1 ws.length h.c1] ∧ RdL w h vs ws ∧ vs.length ≤ maxLen ∧ ws.length ≤ maxLen := by
  obtain ⟨v0, v1, y0, y1, n, rfl, _, _, h0, h1⟩ := Go.Joins.open_agg2 Tryz.underlying35 (by kernel_rfl) (by kernel_rfl) hv h
  obtain ⟨a0, n0, c0, vs, rfl, r0, m0⟩ : ∃ a n c, ∃ vs : List LK, v0 = .slice a n c ∧ RdK w a n vs ∧ n ≤ maxLen := by
    rcases open_K Tryz.underlying32 Tryz.underlying245 (by kernel_rfl) (by kernel_rfl) Tryz.underlying3 Tryz.underlying3 Tryz.underlying3 Tryz.underlying3 h0 with hcs | ⟨x, l, c, vs, hcs, hm, hr⟩
    · simp at hcs
      exact ⟨none, 0, 0, [], hcs, ⟨rfl, fun h => absurd h (by omega)⟩, by unfold maxLen; omega⟩
    · simp at hcs
      exact ⟨some x, l, c, vs, hcs, hr, hm⟩
  obtain ⟨a1, n1, c1, ws, rfl, r1, m1⟩ : ∃ a n c, ∃ ws : List WK, v1 = .slice a n c ∧ RdW w a n ws ∧ n ≤ maxLen := by
    rcases open_W Tryz.underlying33 Tryz.underlying247 (by kernel_rfl) (by kernel_rfl) Tryz.underlying3 Tryz.underlying3 h1 with hcs | ⟨x, l, c, ws, hcs, hm, hr⟩
    · simp at hcs
      exact ⟨none, 0, 0, [], hcs, ⟨rfl, fun h => absurd h (by omega)⟩, by unfold maxLen; omega⟩
    · simp at hcs
      exact ⟨some x, l, c, ws, hcs, hr, hm⟩
  have l0 := r0.1
  have l1 := r1.1
  subst l0 l1
  exact ⟨⟨a0, c0, a1, c1⟩, vs, ws, rfl, ⟨r0, r1⟩, m0, m1⟩

end Go.Proofs.YtfibdpfhfgnbiaaGreatDoor.L
