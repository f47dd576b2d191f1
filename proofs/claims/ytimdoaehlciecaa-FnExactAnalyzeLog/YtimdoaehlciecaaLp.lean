/-
  Links of a log: the program's way and the specification's way are one.
-/
import Derived.Test.YtimdoaehlciecaaRm
namespace Go.Proofs.Ytimdoaehlciecaa
open Go Go.RowKit

def inPl : Nat → List DR → Bool
  | _, [] => true
  | i, v :: vs => okLR v && (decide (v.l = (i : Int) + 1) && inPl (i + 1) vs)
theorem inPl_at {vs : List DR} {k : Nat} (h : k < vs.length) : inPl k (vs.drop k) = (okLR (vs.getD k zeroR) && (decide ((vs.getD k zeroR).l = (k : Int) + 1) && inPl (k + 1) (vs.drop (k + 1)))) := by
  rw [List.drop_eq_getElem_cons h, List.getD_eq_getElem?_getD, List.getElem?_eq_getElem h]
  rfl
theorem inPl_all : ∀ (vs : List DR) (i : Nat), inPl i vs = true → ∀ j, j < vs.length → okLR (vs.getD j zeroR) = true ∧ (vs.getD j zeroR).l = (i : Int) + j + 1
  | [], _, _, j, hj => absurd hj (by simp)
  | v :: vs, i, h, j, hj => by
    unfold inPl at h
    simp only [Bool.and_eq_true, decide_eq_true_eq] at h
    cases j with
    | zero => exact ⟨h.1, by simpa using h.2.1⟩
    | succ j =>
      have := inPl_all vs (i + 1) h.2.2 j (by simpa using hj)
      exact ⟨by simpa using this.1, by have := this.2; simp at this ⊢; omega⟩
theorem rec_parts {r : DR} (h : okLR r = true) : (1 ≤ r.l ∧ r.l ≤ 60) ∧ ((r.k = 6 ∧ r.t = 0) ∨ ((1 ≤ r.k ∧ r.k ≤ 5) ∧ (1 ≤ r.t ∧ r.t ≤ 60) ∧ (0 ≤ r.n ∧ r.n ≤ r.l - 1))) := by
  rw [← okLS_eq] at h
  unfold okLS at h
  split at h
  · rename_i h0
    simp only [Bool.and_eq_true, inB, decide_eq_true_eq] at h0
    by_cases k6 : r.k = 6
    · rw [if_pos k6] at h
      simp only [Bool.and_eq_true, decide_eq_true_eq] at h
      exact ⟨by omega, .inl ⟨k6, h.1.1⟩⟩
    · rw [if_neg k6] at h
      split at h
      · rename_i h1
        simp only [Bool.and_eq_true, inB, decide_eq_true_eq] at h1
        exact ⟨by omega, .inr ⟨by omega, by omega, by omega⟩⟩
      · cases h
  · cases h
def ownR (L : List DR) (lsn tx : Int) : Bool := decide (1 ≤ lsn) && (decide (lsn ≤ (L.length : Int)) && (decide ((L.getD (lsn - 1).toNat zeroR).t = tx) && decide ((L.getD (lsn - 1).toNat zeroR).k ≤ 3)))
def updN {α : Type} (f : Nat → α) (m : Nat) (x : α) : Nat → α := fun i => if i = m then x else f i
theorem updN_at {α : Type} (f : Nat → α) (m : Nat) (x : α) : updN f m x m = x := by unfold updN; rw [if_pos rfl]
theorem updN_ne {α : Type} (f : Nat → α) {m i : Nat} (x : α) (h : i ≠ m) : updN f m x i = f i := by unfold updN; rw [if_neg h]
/-- A record goes on with its transaction: the program's way. -/
def folI (L : List DR) (r : DR) (la : Int) : Bool := (decide (r.p = la) && (!(decide (0 < la)) || ownR L la r.t)) && (!(decide (r.k = 3)) || ownR L r.n r.t)
def nxtS (L : List DR) (r : DR) : Bool := !(decide (r.k = 3)) || (!(decide (r.n = 0)) && decide ((L.getD (r.n - 1).toNat zeroR).t = r.t))
def lnkI (L : List DR) : (Nat → Int) → List DR → Bool
  | _, [] => true
  | f, r :: rs => if r.k = 6 then lnkI L f rs else folI L r (f r.t.toNat) && lnkI L (updN f r.t.toNat r.l) rs
def endK (k : Int) : Bool := decide (k = 4) || decide (k = 5)
def lnkS (L : List DR) : (Nat → Int) → (Nat → Bool) → List DR → Bool
  | _, _, [] => true
  | f, o, r :: rs => if r.k = 6 then lnkS L f o rs else (!(o r.t.toNat) && decide (r.p = f r.t.toNat)) && (nxtS L r && lnkS L (updN f r.t.toNat r.l) (updN o r.t.toNat (endK r.k)) rs)
theorem lnkI_at {L vs : List DR} {f : Nat → Int} {k : Nat} (h : k < vs.length) : lnkI L f (vs.drop k) = if (vs.getD k zeroR).k = 6 then lnkI L f (vs.drop (k + 1)) else folI L (vs.getD k zeroR) (f (vs.getD k zeroR).t.toNat) && lnkI L (updN f (vs.getD k zeroR).t.toNat (vs.getD k zeroR).l) (vs.drop (k + 1)) := by
  rw [List.drop_eq_getElem_cons h, List.getD_eq_getElem?_getD, List.getElem?_eq_getElem h]
  rfl
theorem lnkS_at {L vs : List DR} {f : Nat → Int} {o : Nat → Bool} {k : Nat} (h : k < vs.length) : lnkS L f o (vs.drop k) = if (vs.getD k zeroR).k = 6 then lnkS L f o (vs.drop (k + 1)) else (!(o (vs.getD k zeroR).t.toNat) && decide ((vs.getD k zeroR).p = f (vs.getD k zeroR).t.toNat)) && (nxtS L (vs.getD k zeroR) && lnkS L (updN f (vs.getD k zeroR).t.toNat (vs.getD k zeroR).l) (updN o (vs.getD k zeroR).t.toNat (endK (vs.getD k zeroR).k)) (vs.drop (k + 1))) := by
  rw [List.drop_eq_getElem_cons h, List.getD_eq_getElem?_getD, List.getElem?_eq_getElem h]
  rfl
structure InvL (L : List DR) (k : Nat) (f : Nat → Int) (o : Nat → Bool) : Prop where
  zero : ∀ m, f m = 0 → o m = false
  some : ∀ m, f m ≠ 0 → 1 ≤ f m ∧ f m ≤ (k : Int) ∧ (L.getD (f m - 1).toNat zeroR).t.toNat = m ∧ (L.getD (f m - 1).toNat zeroR).k ≠ 6 ∧ o m = endK (L.getD (f m - 1).toNat zeroR).k
  rest : ∀ j, j < k → (L.getD j zeroR).k ≠ 6 → (j : Int) + 1 ≠ f (L.getD j zeroR).t.toNat → (L.getD j zeroR).k ≤ 3
theorem endK_iff {r : DR} (h : okLR r = true) (h6 : r.k ≠ 6) : endK r.k = !(decide (r.k ≤ 3)) := by
  rcases (rec_parts h).2 with ⟨h0, _⟩ | ⟨h0, _, _⟩
  · exact absurd h0 h6
  · unfold endK
    by_cases h3 : r.k ≤ 3
    · rw [decide_eq_false (show ¬ r.k = 4 by omega), decide_eq_false (show ¬ r.k = 5 by omega), decide_eq_true h3]; rfl
    · rw [decide_eq_false h3]
      by_cases h4 : r.k = 4
      · rw [decide_eq_true h4]; rfl
      · rw [decide_eq_true (show r.k = 5 by omega), Bool.or_true]; rfl
theorem lnk_same {L : List DR} (H : ∀ j, j < L.length → okLR (L.getD j zeroR) = true ∧ (L.getD j zeroR).l = (j : Int) + 1) :
    ∀ (n k : Nat) (f : Nat → Int) (o : Nat → Bool), k + n = L.length → InvL L k f o → lnkI L f (L.drop k) = lnkS L f o (L.drop k)
  | 0, k, f, o, hk, _ => by rw [List.drop_of_length_le (by omega)]; rfl
  | n + 1, k, f, o, hk, I => by
    have hlt : k < L.length := by omega
    rw [lnkI_at hlt, lnkS_at hlt]
    obtain ⟨hok, hl⟩ := H k hlt
    obtain ⟨r, hr⟩ : ∃ r, r = L.getD k zeroR := ⟨_, rfl⟩
    rw [← hr] at hok hl ⊢
    by_cases k6 : r.k = 6
    · rw [if_pos k6, if_pos k6]
      refine lnk_same H n (k + 1) f o (by omega) ⟨I.zero, fun m hm => ?_, fun j hj h6 hne => ?_⟩
      · obtain ⟨a, b, c⟩ := I.some m hm
        exact ⟨a, by omega, c⟩
      · by_cases e : j = k
        · subst e; rw [← hr] at h6; exact absurd k6 h6
        · exact I.rest j (by omega) h6 hne
    rw [if_neg k6, if_neg k6]
    obtain ⟨hl60, hp⟩ := rec_parts hok
    obtain ⟨hk5, ht, hn⟩ : (1 ≤ r.k ∧ r.k ≤ 5) ∧ (1 ≤ r.t ∧ r.t ≤ 60) ∧ (0 ≤ r.n ∧ r.n ≤ r.l - 1) := by
      rcases hp with ⟨h0, _⟩ | h0
      · exact absurd h0 k6
      · exact h0
    obtain ⟨t, htt⟩ : ∃ t, t = r.t.toNat := ⟨_, rfl⟩
    have htc : r.t = (t : Int) := by omega
    rw [← htt]
    -- the last one
    have hla : (!(decide (0 < f t)) || ownR L (f t) r.t) = !(o t) := by
      by_cases h0 : f t = 0
      · rw [I.zero t h0, h0]; rfl
      · obtain ⟨a, b, c, d, e⟩ := I.some t h0
        obtain ⟨j, hj⟩ : ∃ j : Nat, f t = (j : Int) + 1 := ⟨(f t - 1).toNat, by omega⟩
        rw [hj, show ((j : Int) + 1 - 1).toNat = j by omega] at c d e
        have hjl : j < L.length := by omega
        obtain ⟨ok2, _⟩ := H j hjl
        have tt : (L.getD j zeroR).t = r.t := by
          rcases (rec_parts ok2).2 with ⟨h6, _⟩ | ⟨_, h1, _⟩
          · exact absurd h6 d
          · omega
        rw [e, endK_iff ok2 d, hj]
        unfold ownR
        rw [show ((j : Int) + 1 - 1).toNat = j by omega, decide_eq_true (show (0 : Int) < (j : Int) + 1 by omega), decide_eq_true (show (1 : Int) ≤ (j : Int) + 1 by omega), decide_eq_true (show ((j : Int) + 1) ≤ (L.length : Int) by omega), decide_eq_true tt]
        simp
    unfold folI
    rw [hla]
    by_cases hot : o t = true
    · rw [hot]; simp
    have hof : o t = false := by simpa using hot
    rw [hof]
    have hnx : (!(decide (r.k = 3)) || ownR L r.n r.t) = nxtS L r := by
      unfold nxtS
      by_cases h3 : r.k = 3
      · rw [decide_eq_true h3]
        by_cases n0 : r.n = 0
        · unfold ownR; rw [n0]; rfl
        · obtain ⟨j, hj⟩ : ∃ j : Nat, r.n = (j : Int) + 1 := ⟨(r.n - 1).toNat, by omega⟩
          have hjl : j < L.length := by omega
          have hjk : j < k := by omega
          obtain ⟨ok2, _⟩ := H j hjl
          unfold ownR
          rw [hj, show ((j : Int) + 1 - 1).toNat = j by omega, decide_eq_true (show (1 : Int) ≤ (j : Int) + 1 by omega), decide_eq_true (show ((j : Int) + 1) ≤ (L.length : Int) by omega), decide_eq_false (show ¬ ((j : Int) + 1 = 0) by omega)]
          by_cases tt : (L.getD j zeroR).t = r.t
          · have h6 : (L.getD j zeroR).k ≠ 6 := by
              rcases (rec_parts ok2).2 with ⟨_, h0⟩ | ⟨h0, _⟩
              · omega
              · omega
            have h33 : (L.getD j zeroR).k ≤ 3 := by
              by_cases e : (j : Int) + 1 = f t
              · obtain ⟨_, _, _, _, q⟩ := I.some t (by omega)
                rw [← e, show ((j : Int) + 1 - 1).toNat = j by omega, hof, endK_iff ok2 h6] at q
                simpa using q.symm
              · exact I.rest j hjk h6 (by rw [tt, ← htt]; exact e)
            rw [decide_eq_true tt, decide_eq_true h33]
            rfl
          · rw [decide_eq_false tt]; simp
      · rw [decide_eq_false h3]; rfl
    rw [hnx]
    have IH := lnk_same H n (k + 1) (updN f t r.l) (updN o t (endK r.k)) (by omega) ⟨fun m hm => ?_, fun m hm => ?_, fun j hj h6 hne => ?_⟩
    · rw [IH]
      cases decide (r.p = f t) <;> cases nxtS L r <;> simp
    · by_cases e : m = t
      · subst e; rw [updN_at] at hm; omega
      · rw [updN_ne _ _ e] at hm ⊢; exact I.zero m hm
    · by_cases e : m = t
      · subst e
        rw [updN_at, updN_at, hl, show ((k : Int) + 1 - 1).toNat = k by omega, ← hr]
        exact ⟨by omega, by omega, htt.symm, k6, rfl⟩
      · rw [updN_ne _ _ e] at hm ⊢
        rw [updN_ne _ _ e]
        obtain ⟨a, b, c⟩ := I.some m hm
        exact ⟨a, by omega, c⟩
    · by_cases e : j = k
      · subst e
        rw [← hr, ← htt, updN_at, hl] at hne
        exact absurd rfl hne
      · by_cases em : (L.getD j zeroR).t.toNat = t
        · by_cases ef : (j : Int) + 1 = f t
          · obtain ⟨_, _, _, d, q⟩ := I.some t (by omega)
            rw [← ef, show ((j : Int) + 1 - 1).toNat = j by omega, hof, endK_iff (H j (by omega)).1 h6] at q
            simpa using q.symm
          · exact I.rest j (by omega) h6 (by rw [em]; exact ef)
        · rw [updN_ne _ _ em] at hne
          exact I.rest j (by omega) h6 hne
theorem lnk_eq {L : List DR} (h : inPl 0 L = true) : lnkI L (fun _ => 0) L = lnkS L (fun _ => 0) (fun _ => false) L := by
  have H : ∀ j, j < L.length → okLR (L.getD j zeroR) = true ∧ (L.getD j zeroR).l = (j : Int) + 1 := fun j hj => by
    have := inPl_all L 0 h j hj
    exact ⟨this.1, by have := this.2; omega⟩
  have := lnk_same H L.length 0 (fun _ => 0) (fun _ => false) (by omega) ⟨fun _ _ => rfl, fun m hm => absurd rfl hm, fun j hj => absurd hj (by omega)⟩
  rwa [List.drop_zero] at this
end Go.Proofs.Ytimdoaehlciecaa
