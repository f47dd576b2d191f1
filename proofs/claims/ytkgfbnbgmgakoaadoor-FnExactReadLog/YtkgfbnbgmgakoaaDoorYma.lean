/-
  The log that is read of a disk: mathematics.
-/
import Derived.Test.YtkgfbnbgmgakoaaDoorTc
import Derived.Test.YtkgfbnbgmgakoaaDoorRq
import Derived.Test.YtkgfbnbgmgakoaaDoorYla
namespace Go.Proofs.YtkgfbnbgmgakoaaDoor
open Go Go.RowKit
attribute [local go_sem ↓] Go.wp_at_zero Go.wp_at_succ

/-- The record that a sector's text is, if it is one. -/
def rcO (s : ByteArray) : Option DR := if unsB (numsT s) then rrD (headZ (numsT s)) else none
theorem rc_some {s : ByteArray} {D : DR} (hs : s.size ≤ 65536) (h : rcO s = some D) : rdC2 (numsT s) = 0 ∧ rdR2 (numsT s) = D := by
  unfold rcO at h
  split at h
  · rename_i hu
    exact rq0 (by rw [nums_len]; omega) hu h
  · cases h
theorem rc_none {s : ByteArray} (hs : s.size ≤ 65536) (h : rcO s = none) : ∃ c, rdC2 (numsT s) = c ∧ rdR2 (numsT s) = zeroR ∧ (c != 0) = true := by
  unfold rcO at h
  have hl : ¬ 65536 < (numsT s).length := by rw [nums_len]; omega
  split at h
  · rename_i hu
    exact ⟨3, (rq3 hl hu h).1, (rq3 hl hu h).2, rfl⟩
  · rename_i hu
    exact ⟨8, (rq8 hl (by simpa using hu)).1, (rq8 hl (by simpa using hu)).2, rfl⟩
theorem rr_ok {x : List Int} {D : DR} (h : rrD x = some D) : okLR D = true := by
  unfold rrD at h
  split at h
  · cases h
  · split at h
    · split at h
      · split at h
        · rename_i hk; cases h; exact hk
        · cases h
      · cases h
    · cases h
theorem rc_ok {s : ByteArray} {D : DR} (h : rcO s = some D) : okLR D = true := by
  unfold rcO at h
  split at h
  · exact rr_ok h
  · cases h
theorem rc_rng {s : ByteArray} {D : DR} (h : rcO s = some D) : (1 ≤ D.e ∧ D.e ≤ 60) ∧ (1 ≤ D.l ∧ D.l ≤ 60) := by
  have := rc_ok h
  unfold okLR inB at this
  simp only [Bool.and_eq_true, decide_eq_true_eq] at this
  exact ⟨⟨by omega, by omega⟩, ⟨by omega, by omega⟩⟩
def lastE (acc : List DR) : Int := (acc.getLast?.map (·.e)).getD 0
theorem lastE_nil : lastE [] = 0 := rfl
theorem lastE_app (acc : List DR) (r : DR) : lastE (acc ++ [r]) = r.e := by unfold lastE; rw [List.getLast?_append]; rfl
theorem lastE_get (acc : List DR) (p : Nat) (h : acc.length = p + 1) : lastE acc = (acc.getD p zeroR).e := by
  unfold lastE
  rw [List.getLast?_eq_getElem?, h, List.getD_eq_getElem?_getD, Nat.add_sub_cancel, List.getElem?_eq_getElem (by omega)]
  rfl
/-- The next record, if there is one. -/
def stepL (T : Nat → ByteArray) (n0 : Nat) (ep : Int) (acc : List DR) : Option DR :=
  if 9 + acc.length < n0 then (match rcO (T (9 + acc.length)) with | some r => if r.l = (acc.length : Int) + 1 ∧ lastE acc ≤ r.e ∧ r.e ≤ ep then some r else none | none => none) else none
def logL (T : Nat → ByteArray) (n0 : Nat) (ep : Int) : Nat → List DR → List DR
  | 0, acc => acc
  | f + 1, acc => match stepL T n0 ep acc with | some r => logL T n0 ep f (acc ++ [r]) | none => acc
theorem st_far {T : Nat → ByteArray} {n0 : Nat} {ep : Int} {acc : List DR} {k : Nat} (hk : acc.length = k) (h : ¬ 9 + k < n0) : stepL T n0 ep acc = none := by subst hk; unfold stepL; rw [if_neg h]
theorem st_none {T : Nat → ByteArray} {n0 : Nat} {ep : Int} {acc : List DR} {k : Nat} (hk : acc.length = k) (h : rcO (T (9 + k)) = none) : stepL T n0 ep acc = none := by subst hk; unfold stepL; rw [h]; split <;> rfl
theorem st_bad {T : Nat → ByteArray} {n0 : Nat} {ep : Int} {acc : List DR} {k : Nat} (hk : acc.length = k) {r : DR} (h : rcO (T (9 + k)) = some r) (hb : ¬ (r.l = (k : Int) + 1 ∧ lastE acc ≤ r.e ∧ r.e ≤ ep)) : stepL T n0 ep acc = none := by
  subst hk; unfold stepL; rw [h]; split
  · exact if_neg hb
  · rfl
theorem st_good {T : Nat → ByteArray} {n0 : Nat} {ep : Int} {acc : List DR} {k : Nat} (hk : acc.length = k) (h9 : 9 + k < n0) {r : DR} (h : rcO (T (9 + k)) = some r) (hb : r.l = (k : Int) + 1 ∧ lastE acc ≤ r.e ∧ r.e ≤ ep) : stepL T n0 ep acc = some r := by
  subst hk; unfold stepL; rw [if_pos h9, h]; exact if_pos hb
theorem log_end {T : Nat → ByteArray} {n0 : Nat} {ep : Int} {acc R : List DR} {k : Nat} (h9 : k ≤ 100) (HL : logL T n0 ep (200 - k) acc = R) (hs : stepL T n0 ep acc = none) : R = acc := by
  rw [show 200 - k = (199 - k) + 1 by omega] at HL
  rw [← HL]
  unfold logL
  rw [hs]
theorem log_more {T : Nat → ByteArray} {n0 : Nat} {ep : Int} {acc R : List DR} {k : Nat} (h9 : k ≤ 100) (HL : logL T n0 ep (200 - k) acc = R) {r : DR} (hs : stepL T n0 ep acc = some r) : logL T n0 ep (200 - (k + 1)) (acc ++ [r]) = R := by
  rw [show 200 - k = (200 - (k + 1)) + 1 by omega] at HL
  rw [← HL]
  conv => rhs; unfold logL
  rw [hs]
def logR (D : DD) (ep : Int) : List DR := if okD D && inB ep 0 60 then logL (rdS D.S D.C) D.S.length ep 200 [] else []
def logC (D : DD) (ep : Int) : Int := if okD D then (if inB ep 0 60 then 0 else 4) else 1
theorem lg_bad {D : DD} {ep : Int} (h : okD D = false) : logR D ep = [] ∧ logC D ep = 1 := by unfold logR logC; rw [h]; exact ⟨rfl, rfl⟩
theorem lg_ep {D : DD} {ep : Int} (h : okD D = true) (h' : inB ep 0 60 = false) : logR D ep = [] ∧ logC D ep = 4 := by unfold logR logC; rw [h, h']; exact ⟨rfl, rfl⟩
theorem lg_yes {D : DD} {ep : Int} (h : okD D = true) (h' : inB ep 0 60 = true) : logL (rdS D.S D.C) D.S.length ep 200 [] = logR D ep ∧ logC D ep = 0 := by unfold logR logC; rw [h, h']; exact ⟨rfl, rfl⟩
theorem ok_parts {D : DD} (h : okD D = true) : (D.S.length ≤ 100 ∧ D.C.length ≤ 500) ∧ (∀ s ∈ D.S, s.size ≤ 160) ∧ ∀ p ∈ D.C, p.2.size ≤ 160 := by
  unfold okD at h
  simp only [Bool.and_eq_true, decide_eq_true_eq, List.all_eq_true] at h
  refine ⟨⟨h.1.2.1, h.1.2.2.1⟩, h.2.1, fun p hp => ?_⟩
  have := h.2.2.1 p hp
  unfold goodC at this
  simp only [Bool.and_eq_true, decide_eq_true_eq] at this
  exact this.2
theorem rdS_size {S : List ByteArray} {C : List PP} {j : Nat} (h0 : ∀ s ∈ S, s.size ≤ 160) (h1 : ∀ p ∈ C, p.2.size ≤ 160) : (rdS S C j).size ≤ 160 := by
  cases hf : fdB (bkL C C.length C.length) j with
  | none =>
    rw [rdS_miss hf, List.getD_eq_getElem?_getD]
    cases hs : S[j]? with
    | none => exact Nat.zero_le _
    | some s => exact h0 s (List.mem_of_getElem? hs)
  | some y =>
    rw [rdS_hit (Nat.le_refl _) hf]
    unfold fdB at hf
    have hm := List.mem_of_find?_eq_some hf
    unfold bkL at hm
    obtain ⟨i, hi, rfl⟩ := List.mem_map.1 hm
    have hi' := List.mem_range.1 hi
    unfold bkF
    dsimp only
    refine h1 _ ?_
    rw [List.getD_eq_getElem?_getD, List.getElem?_eq_getElem (by omega)]
    exact List.getElem_mem _
theorem infoQ : (Tryd.prog.info? 75).map (fun i => (i.zero, i.size, i.bytes)) = some (some (.agg #[.int .i64 0, .int .i64 0, .int .i64 0, .int .i64 0, .int .i64 0, .int .i64 0, .int .i64 0, .int .i64 0, .string ⟨#[]⟩, .string ⟨#[]⟩]), 10, 96) := by kernel_rfl
theorem cQ_one (v : DR) : ∀ u ∈ cQ v, u.oneCell' = true := by
  intro u hu
  unfold cQ at hu
  simp only [List.mem_cons, List.not_mem_nil, or_false] at hu
  rcases hu with rfl | rfl | rfl | rfl | rfl | rfl | rfl | rfl | rfl | rfl <;> rfl
theorem box_newQ {w : World} {g : Nat} {v : DR} {ty : TypeId} (hb : Box w g ty (agR v)) : ∀ j u, (cQ v)[j]? = some u → w.cell? ((⟨g, 0, none⟩ : Addr).add j) = some u := by
  intro j u h
  have e : (⟨g, 0, none⟩ : Addr).add j = ⟨g, j, none⟩ := by unfold Addr.add; split <;> simp_all
  rw [e, hb.cell]
  unfold cQ at h
  unfold agR
  simpa using h

end Go.Proofs.YtkgfbnbgmgakoaaDoor
