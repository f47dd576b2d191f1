/-
  Pages: put, set, written and read back.
-/
import Derived.Test.YtggnfkdeakkpaaaDoorPl
import Derived.Test.YtggnfkdeakkpaaaDoorPj
import Derived.Test.YtggnfkdeakkpaaaDoorPz
import Derived.Test.YtggnfkdeakkpaaaDoorPn
import Derived.Test.YtggnfkdeakkpaaaDoorRq
import Derived.Test.YtggnfkdeakkpaaaDoorPv
import Derived.Test.YtggnfkdeakkpaaaDoorFm
namespace Go.Proofs.YtggnfkdeakkpaaaDoor
open Go Go.RowKit
attribute [local go_sem ↓] Go.wp_at_zero Go.wp_at_succ

def freshT : ByteArray := ⟨#[102, 114, 101, 115, 104]⟩
def setT : ByteArray := ⟨#[115, 101, 116]⟩
theorem list4b {l : List ByteArray} (h : l.length = 4) : ∃ a b c d, l = [a, b, c, d] := by
  match l, h with
  | [a, b, c, d], _ => exact ⟨a, b, c, d, rfl⟩
theorem em_fresh : emB freshT = false := by
  unfold emB freshT
  rw [ByteArray.toList_eq]
  rfl
theorem cnt4 (a b c d : ByteArray) : cntS [a, b, c, d] 4 = (if emB a then 0 else 1) + (if emB b then 0 else 1) + (if emB c then 0 else 1) + (if emB d then 0 else 1) := by
  unfold cntS
  cases ha : emB a <;> cases hb : emB b <;> cases hc : emB c <;> cases hd : emB d <;> simp [ha, hb, hc, hd]
theorem free_facts {ss : List ByteArray} (h : ss.length = 4) : (freeI ss = -1 ∧ cntS ss 4 = 4) ∨ ∃ k : Nat, k < 4 ∧ freeI ss = (k : Int) ∧ emB (ss.getD k ⟨#[]⟩) = true ∧ cntS ss 4 < 4 ∧ cntS (ss.set k freshT) 4 = cntS ss 4 + 1 := by
  obtain ⟨a, b, c, d, rfl⟩ := list4b h
  cases ha : emB a
  · cases hb : emB b
    · cases hc : emB c
      · cases hd : emB d
        · left
          refine ⟨free_no (n := 4) rfl (fun j hj => ?_), ?_⟩
          · match j, hj with
            | 0, _ => exact ha
            | 1, _ => exact hb
            | 2, _ => exact hc
            | 3, _ => exact hd
          · rw [cnt4, ha, hb, hc, hd]; rfl
        · right
          refine ⟨3, by omega, free_at (by simp) hd (fun j hj => ?_), hd, ?_, ?_⟩
          · match j, hj with
            | 0, _ => exact ha
            | 1, _ => exact hb
            | 2, _ => exact hc
          · rw [cnt4, ha, hb, hc, hd]; decide
          · show cntS [a, b, c, freshT] 4 = _
            rw [cnt4, cnt4, ha, hb, hc, hd, em_fresh]; rfl
      · right
        refine ⟨2, by omega, free_at (by simp) hc (fun j hj => ?_), hc, ?_, ?_⟩
        · match j, hj with
          | 0, _ => exact ha
          | 1, _ => exact hb
        · rw [cnt4, ha, hb, hc]; cases emB d <;> decide
        · show cntS [a, b, freshT, d] 4 = _
          rw [cnt4, cnt4, ha, hb, hc, em_fresh]; cases emB d <;> rfl
    · right
      refine ⟨1, by omega, free_at (by simp) hb (fun j hj => ?_), hb, ?_, ?_⟩
      · match j, hj with
        | 0, _ => exact ha
      · rw [cnt4, ha, hb]; cases emB c <;> cases emB d <;> decide
      · show cntS [a, freshT, c, d] 4 = _
        rw [cnt4, cnt4, ha, hb, em_fresh]; cases emB c <;> cases emB d <;> rfl
  · right
    refine ⟨0, by omega, free_at (by simp) ha (fun j hj => absurd hj (by omega)), ha, ?_, ?_⟩
    · rw [cnt4, ha]; cases emB b <;> cases emB c <;> cases emB d <;> decide
    · show cntS [freshT, b, c, d] 4 = _
      rw [cnt4, cnt4, ha, em_fresh]; cases emB b <;> cases emB c <;> cases emB d <;> rfl
theorem fb_len4 (a b c d : ByteArray) : (fbZ [a, b, c, d] 4 4).length = 5 + a.size + b.size + c.size + d.size := by
  have hz : ∀ s : ByteArray, (strZ s).length = s.size := fun s => by simp [strZ]
  unfold fbZ
  simp [hz]
  omega
theorem okG_set {D : DG} (h : okG D = true) (k : Nat) (d : ByteArray) (l : Int) (hd : d.size ≤ 30) (hl : 0 ≤ l ∧ l ≤ 1000) : okG ⟨l, D.S.set k d⟩ = true := by
  obtain ⟨_, _, h3, h4⟩ := okG_parts h
  refine okG_yes ?_ (by simpa using h3) ?_
  · unfold inB; exact decide_eq_true hl
  · rw [List.any_eq_false]
    intro s hs
    have : s.size ≤ 30 := by
      rcases List.mem_or_eq_of_mem_set hs with h5 | h5
      · exact h4 s h5
      · rw [h5]; exact hd
    unfold longB
    simp
    omega
/-- Putting "fresh" into a right page. -/
theorem ins_facts {D : DG} (h : okG D = true) : (insC D freshT = 7 ∧ insK D freshT = 0 ∧ insR D freshT = D ∧ usedR D = 4) ∨ ∃ k : Nat, k < 4 ∧ insC D freshT = 0 ∧ insK D freshT = (k : Int) ∧ insR D freshT = ⟨D.L, D.S.set k freshT⟩ ∧ (D.S.getD k ⟨#[]⟩).toList = [] ∧ usedR D ≠ 4 ∧ usedR ⟨D.L, D.S.set k freshT⟩ = usedR D + 1 ∧ usedC ⟨D.L, D.S.set k freshT⟩ = 0 := by
  obtain ⟨h1, h2, h3, h4⟩ := okG_parts h
  have hs : ¬ 65536 < freshT.size := by decide
  have hb : inB freshT.size 1 30 = true := by decide
  have hu := (used_yes h).1
  rcases free_facts h3 with ⟨f1, f2⟩ | ⟨k, hk, f1, f2, f3, f4⟩
  · obtain ⟨e1, e2, e3⟩ := ins7 hs h hb f1
    exact .inl ⟨e1, e2, e3, by rw [hu, f2]; rfl⟩
  · obtain ⟨e1, e2, e3⟩ := ins0 hs h hb f1
    have h5 := okG_set h k freshT D.L (by decide) ⟨h1, h2⟩
    obtain ⟨u1, u2⟩ := used_yes h5
    refine .inr ⟨k, hk, e1, e2, e3, ?_, ?_, ?_, u2⟩
    · unfold emB at f2
      simpa using f2
    · rw [hu]; omega
    · rw [u1, hu]
      show ((cntS (D.S.set k freshT) 4 : Nat) : Int) = _
      rw [f4]; omega
/-- A right page of number 5 is read back from its bytes, and is none of number 6. -/
theorem pb_read {D : DG} (h : okG D = true) : pbC D 5 = 0 ∧ (pbR D 5).length ≤ 160 ∧ (∀ z ∈ pbR D 5, 0 ≤ z ∧ z < 256) ∧ rdC 5 (pbR D 5) = 0 ∧ rdR 5 (pbR D 5) = D ∧ rdC 6 (pbR D 5) = 3 ∧ rdR 6 (pbR D 5) = ⟨0, []⟩ := by
  obtain ⟨h1, h2, h3, h4⟩ := okG_parts h
  have hb5 : inB (5 : Int) 0 255 = true := by decide
  have e0 : pbC D 5 = 0 := by unfold pbC; rw [h, hb5]; rfl
  have e1 : pbR D 5 = pbZ D 5 ++ sumZ (Crc.crc (pbZ D 5) : Nat) := by unfold pbR; rw [h, hb5]; rfl
  have hpb := pb_bytes (no := 5) h (by omega)
  have hsum := sum_bytes (c := (Crc.crc (pbZ D 5) : Nat)) (by omega) (by have := crc_lt _ hpb; omega)
  have hs4 : (sumZ (Crc.crc (pbZ D 5) : Nat)).length = 4 := rfl
  have hfl : (fbZ D.S 4 4).length ≤ 125 := by
    obtain ⟨a, b, c, d, e⟩ := list4b h3
    rw [e] at h4 ⊢
    have q1 := h4 a (by simp)
    have q2 := h4 b (by simp)
    have q3 := h4 c (by simp)
    have q4 := h4 d (by simp)
    have := fb_len4 a b c d
    omega
  have hpl : (pbZ D 5).length = 4 + (fbZ D.S 4 4).length := pb_len
  have hlen : (pbR D 5).length = (pbZ D 5).length + 4 := by rw [e1, List.length_append, hs4]
  have hhead : headZ (pbR D 5) = pbZ D 5 := by
    unfold headZ
    rw [hlen, e1, Nat.add_sub_cancel, List.take_left']
    rfl
  have htail : tailZ (pbR D 5) = sumZ (Crc.crc (pbZ D 5) : Nat) := by
    unfold tailZ
    rw [hlen, e1, Nat.add_sub_cancel, List.drop_left']
    rfl
  have huns : unsB (pbR D 5) = true := uns_yes (by omega) (by rw [hhead, htail])
  have hdrop : (pbZ D 5).drop 4 = fbZ D.S 4 4 := rfl
  have hok : okR ((pbZ D 5).drop 4) = some D.S := by
    rw [hdrop]
    obtain ⟨_, _, w3, w4⟩ := write_read (ss := D.S) (n := 4) h3 (by omega) (fun s hs => by have := h4 s hs; omega)
    unfold errR at w3
    unfold resR at w4
    have hl : ¬ 65536 < (fbZ D.S 4 4).length := by omega
    rw [if_neg hl] at w3 w4
    cases hh : okR (fbZ D.S 4 4) with
    | none => rw [hh] at w3; cases w3
    | some l =>
      rw [hh] at w4
      exact congrArg some w4
  have hlsn : lsnZ (pbZ D 5) = D.L := by
    show D.L / 256 * 256 + D.L % 256 = D.L
    omega
  have hr5 : rpD 5 (pbZ D 5) = some D := by
    have := rp_yes (no := 5) (x := pbZ D 5) (by omega) ⟨rfl, rfl⟩ hok (by rw [hlsn]; exact h)
    rw [this, hlsn]
  have hr6 : rpD 6 (pbZ D 5) = none := rp_mark (fun e => by
    have e2 : (5 : Int) = 6 := e.2
    omega)
  have hn : ¬ 65536 < (pbR D 5).length := by omega
  refine ⟨e0, by omega, ?_, ?_, ?_, ?_, ?_⟩
  · rw [e1]
    intro z hz
    rcases List.mem_append.1 hz with hz | hz
    · exact hpb z hz
    · exact hsum z hz
  · unfold rdC; rw [if_neg hn, huns, hhead, hr5]; rfl
  · unfold rdR; rw [if_neg hn, huns, hhead, hr5]; rfl
  · unfold rdC; rw [if_neg hn, huns, hhead, hr6]; rfl
  · unfold rdR; rw [if_neg hn, huns, hhead, hr6]; rfl

end Go.Proofs.YtggnfkdeakkpaaaDoor
