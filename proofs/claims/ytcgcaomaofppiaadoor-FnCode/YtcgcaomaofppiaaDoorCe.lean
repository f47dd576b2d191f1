/-
  What makes code right: how many values stand ahead of each instruction, by the program and by the specification.
-/
import Derived.Test.YtcgcaomaofppiaaDoorCd
namespace Go.Proofs.YtcgcaomaofppiaaDoor
open Go Go.RowKit

def zV (x : IN) : Bool := x.k == 0 && (x.n == 0 && (x.t.toList == []))
def jmp (o : Int) : Bool := o == 5 || o == 6
def justB (n i : Nat) (x : IN) : Bool :=
  if x.o = 1 then x.p == 0 && valB x.k x.n x.t
  else if x.o = 2 then zV x && inB x.p 0 2
  else if x.o = 3 then zV x && inB x.p 3 5
  else if x.o = 4 then zV x && inB x.p 6 13
  else jmp x.o && (zV x && inB x.p ((i : Int) + 1) (n : Int))
def tak (o : Int) : Int := if o = 3 then 1 else if o = 4 then 2 else if jmp o then 1 else 0
def leadT (ds : List Int) (to : Nat) (v : Int) : List Int := if ds.getD to 0 < 0 then ds.set to v else ds
def leadB (ds : List Int) (to : Nat) (v : Int) : Bool := (leadT ds to v).getD to 0 == v
def stI (n i : Nat) (x : IN) (ds : List Int) : Option (List Int) :=
  if justB n i x = true ∧ tak x.o ≤ ds.getD i 0 ∧ ds.getD i 0 ≤ 60 then
    (if leadB ds (i + 1) (ds.getD i 0 - tak x.o + 1) then
      (if jmp x.o then (if leadB (leadT ds (i + 1) (ds.getD i 0 - tak x.o + 1)) x.p.toNat (ds.getD i 0 - tak x.o + 1) then some (leadT (leadT ds (i + 1) (ds.getD i 0 - tak x.o + 1)) x.p.toNat (ds.getD i 0 - tak x.o + 1)) else none)
       else some (leadT ds (i + 1) (ds.getD i 0 - tak x.o + 1)))
     else none)
  else none
def setJ (x : IN) (d : Int) (ds : List Int) : List Int := if jmp x.o then ds.set x.p.toNat d else ds
def okJ (x : IN) (d : Int) (ds : List Int) : Bool := !jmp x.o || (decide (ds.getD x.p.toNat 0 < 0) || ds.getD x.p.toNat 0 == d)
def okN (b : Int) (i : Nat) (ds : List Int) : Bool := decide (b ≤ 60) && (decide (ds.getD (i + 1) 0 < 0) || ds.getD (i + 1) 0 == b)
def stS (n i : Nat) (x : IN) (ds : List Int) : Option (List Int) :=
  if justB n i x = true ∧ tak x.o ≤ ds.getD i 0 then
    (if okJ x (ds.getD i 0) ds then
      (if okN (ds.getD i 0 - tak x.o + 1) i (setJ x (ds.getD i 0) ds) then some ((setJ x (ds.getD i 0) ds).set (i + 1) (ds.getD i 0 - tak x.o + 1)) else none)
     else none)
  else none
def finD (n : Nat) (ds : List Int) : Option (List Int) := if ds.getD n 0 = 1 then some ds else none
def goI (n : Nat) (L : List IN) : Nat → Nat → List Int → Option (List Int)
  | 0, _, ds => finD n ds
  | f + 1, i, ds => match stI n i (L.getD i zeroI) ds with | none => none | some d => goI n L f (i + 1) d
def goS (n : Nat) (L : List IN) : Nat → Nat → List Int → Option (List Int)
  | 0, _, ds => finD n ds
  | f + 1, i, ds => match stS n i (L.getD i zeroI) ds with | none => none | some d => goS n L f (i + 1) d
theorem tak_nn (o : Int) : 0 ≤ tak o := by unfold tak; split <;> (try split) <;> (try split) <;> omega
theorem tak_j {o : Int} (h : jmp o = true) : tak o = 1 := by
  unfold tak
  have : o = 5 ∨ o = 6 := by simpa [jmp] using h
  rw [if_neg (by omega), if_neg (by omega), if_pos h]
theorem just_j {n i : Nat} {x : IN} (h : justB n i x = true) (hj : jmp x.o = true) : (i : Int) + 1 ≤ x.p ∧ x.p ≤ n := by
  have : x.o = 5 ∨ x.o = 6 := by simpa [jmp] using hj
  unfold justB at h
  rw [if_neg (by omega), if_neg (by omega), if_neg (by omega), if_neg (by omega), hj] at h
  have : inB x.p ((i : Int) + 1) (n : Int) = true := by simp at h; exact h.2
  exact of_decide_eq_true this
theorem set_getD (ds : List Int) (i : Nat) : ds.set i (ds.getD i 0) = ds := by
  apply List.ext_getElem?
  intro j
  rw [List.getElem?_set]
  by_cases h : i = j
  · subst h
    by_cases hl : i < ds.length
    · simp [hl]
    · simp [hl]
  · simp [h]
theorem getD_set_self {ds : List Int} {i : Nat} {v : Int} (h : i < ds.length) : (ds.set i v).getD i 0 = v := by
  rw [List.getD_eq_getElem?_getD, List.getElem?_set_self h]; rfl
theorem getD_set_ne {ds : List Int} {i j : Nat} {v : Int} (h : i ≠ j) : (ds.set i v).getD j 0 = ds.getD j 0 := by
  rw [List.getD_eq_getElem?_getD, List.getElem?_set_ne h, ← List.getD_eq_getElem?_getD]
theorem lead_len (ds : List Int) (to : Nat) (v : Int) : (leadT ds to v).length = ds.length := by unfold leadT; split <;> simp
/-- A way leads to a place: just if there is no number yet, or the same one; then the place has it. -/
theorem lead_ok {ds : List Int} {to : Nat} {v : Int} (h : to < ds.length) : leadB ds to v = (decide (ds.getD to 0 < 0) || ds.getD to 0 == v) ∧ (leadB ds to v = true → leadT ds to v = ds.set to v) := by
  unfold leadB leadT
  by_cases hn : ds.getD to 0 < 0
  · rw [if_pos hn, getD_set_self h]
    exact ⟨by simp only [decide_eq_true hn]; simp, fun _ => rfl⟩
  · rw [if_neg hn]
    refine ⟨by simp only [decide_eq_false hn]; simp, fun he => ?_⟩
    have : ds.getD to 0 = v := by simpa using he
    rw [← this, set_getD]
theorem st_len {n i : Nat} {x : IN} {ds d : List Int} (h : stS n i x ds = some d) : d.length = ds.length := by
  unfold stS at h
  split at h
  · split at h
    · split at h
      · simp only [Option.some.injEq] at h
        rw [← h]
        unfold setJ
        split <;> simp
      · cases h
    · cases h
  · cases h
theorem stI_of {n i : Nat} {x : IN} {ds d : List Int} (hl : ds.length = n + 1) (hi : i < n) (h60 : ds.getD i 0 ≤ 60) (h : stS n i x ds = some d) : stI n i x ds = some d ∧ d.getD (i + 1) 0 ≤ 60 := by
  unfold stS at h
  unfold stI
  split at h
  case isFalse => cases h
  case isTrue hc =>
  split at h
  case isFalse => cases h
  case isTrue hJ =>
  split at h
  case isFalse => cases h
  case isTrue hN =>
  simp only [Option.some.injEq] at h
  rw [if_pos ⟨hc.1, hc.2, h60⟩]
  generalize hb : ds.getD i 0 - tak x.o + 1 = b at *
  cases hj : jmp x.o
  · unfold setJ at h hN
    rw [hj] at h hN
    simp only [Bool.false_eq_true, if_false] at h hN
    unfold okN at hN
    rw [Bool.and_eq_true] at hN
    have l1 := lead_ok (ds := ds) (to := i + 1) (v := b) (by omega)
    rw [← l1.1] at hN
    rw [if_pos hN.2, l1.2 hN.2]
    refine ⟨by simpa using h, ?_⟩
    rw [← h, getD_set_self (by omega)]
    exact of_decide_eq_true hN.1
  · have t1 := tak_j hj
    have hbd : b = ds.getD i 0 := by omega
    obtain ⟨p1, p2⟩ := just_j hc.1 hj
    obtain ⟨p, hp⟩ : ∃ p : Nat, x.p.toNat = p := ⟨_, rfl⟩
    have hp1 : i + 1 ≤ p := by omega
    have hp2 : p < ds.length := by omega
    unfold setJ at h hN
    unfold okJ at hJ
    rw [hj, hp] at h hN hJ
    simp only [if_true, Bool.not_true, Bool.false_or] at h hN hJ
    unfold okN at hN
    rw [Bool.and_eq_true] at hN
    rw [hp, ← hbd] at *
    have l1 := lead_ok (ds := ds) (to := i + 1) (v := b) (by omega)
    by_cases he : p = i + 1
    · subst he
      have e1 : leadB ds (i + 1) b = true := by rw [l1.1]; exact hJ
      have l2 := lead_ok (ds := ds.set (i + 1) b) (to := i + 1) (v := b) (by simp; omega)
      have e2 : leadB (ds.set (i + 1) b) (i + 1) b = true := by rw [l2.1, getD_set_self (by omega)]; simp
      rw [if_pos e1, l1.2 e1]
      simp only [if_true]
      rw [if_pos e2, l2.2 e2]
      refine ⟨by rw [← h], ?_⟩
      rw [← h, getD_set_self (by simp; omega)]
      exact of_decide_eq_true hN.1
    · have e0 := hN.2
      rw [getD_set_ne (by omega)] at e0
      have e1 : leadB ds (i + 1) b = true := by rw [l1.1]; exact e0
      have l2 := lead_ok (ds := ds.set (i + 1) b) (to := p) (v := b) (by simp; omega)
      have e2 : leadB (ds.set (i + 1) b) p b = true := by rw [l2.1, getD_set_ne (by omega)]; exact hJ
      rw [if_pos e1, l1.2 e1]
      simp only [if_true]
      rw [if_pos e2, l2.2 e2]
      refine ⟨by rw [← h, List.set_comm _ _ (by omega)], ?_⟩
      rw [← h, getD_set_self (by simp; omega)]
      exact of_decide_eq_true hN.1
theorem stI_no {n i : Nat} {x : IN} {ds d : List Int} (hl : ds.length = n + 1) (hi : i < n) (h : stS n i x ds = none) (h2 : stI n i x ds = some d) : d.length = n + 1 ∧ 60 < d.getD (i + 1) 0 := by
  unfold stI at h2
  split at h2
  case isFalse => cases h2
  case isTrue hc =>
  split at h2
  case isFalse => cases h2
  case isTrue h1 =>
  unfold stS at h
  rw [if_pos ⟨hc.1, hc.2.1⟩] at h
  generalize hb : ds.getD i 0 - tak x.o + 1 = b at *
  have l1 := lead_ok (ds := ds) (to := i + 1) (v := b) (by omega)
  rw [l1.2 h1] at h2
  cases hj : jmp x.o
  · rw [hj] at h2
    simp only [Bool.false_eq_true, if_false, Option.some.injEq] at h2
    have e1 : okJ x (ds.getD i 0) ds = true := by simp [okJ, hj]
    have e2 : setJ x (ds.getD i 0) ds = ds := by simp [setJ, hj]
    rw [if_pos e1, e2] at h
    rw [← h2]
    refine ⟨by simpa using hl, ?_⟩
    rw [getD_set_self (by omega)]
    rw [l1.1] at h1
    split at h
    · cases h
    · rename_i hn
      unfold okN at hn
      rw [h1] at hn
      simp at hn
      omega
  · exfalso
    rw [hj] at h2
    have t1 := tak_j hj
    have hbd : b = ds.getD i 0 := by omega
    obtain ⟨p1, p2⟩ := just_j hc.1 hj
    obtain ⟨p, hp⟩ : ∃ p : Nat, x.p.toNat = p := ⟨_, rfl⟩
    have hp1 : i + 1 ≤ p := by omega
    have hp2 : p < ds.length := by omega
    rw [hp] at h2
    simp only [if_true] at h2
    split at h2
    case isFalse => cases h2
    case isTrue h3 =>
    have l2 := lead_ok (ds := ds.set (i + 1) b) (to := p) (v := b) (by simp; omega)
    rw [l2.1] at h3
    rw [l1.1] at h1
    have e1 : okJ x (ds.getD i 0) ds = true := by
      unfold okJ
      rw [hj, hp, ← hbd]
      by_cases he : p = i + 1
      · subst he; simpa using h1
      · rw [getD_set_ne (by omega)] at h3; simpa using h3
    rw [if_pos e1] at h
    have e2 : okN b i (setJ x (ds.getD i 0) ds) = true := by
      unfold okN setJ
      rw [hj, hp, ← hbd]
      simp only [if_true, Bool.and_eq_true]
      refine ⟨decide_eq_true (by omega), ?_⟩
      by_cases he : p = i + 1
      · subst he; rw [getD_set_self (by omega)]; simp
      · rw [getD_set_ne (by omega)]; exact h1
    rw [if_pos e2] at h
    cases h
theorem goI_no {n : Nat} {L : List IN} {f i : Nat} {ds : List Int} (hf : i + f = n) (h : 60 < ds.getD i 0) : goI n L f i ds = none := by
  cases f with
  | zero =>
    obtain rfl : i = n := by omega
    unfold goI finD
    rw [if_neg (by omega)]
  | succ f =>
    unfold goI
    have : stI n i (L.getD i zeroI) ds = none := by unfold stI; rw [if_neg (by omega)]
    rw [this]
theorem go_eq {n : Nat} {L : List IN} : ∀ (f i : Nat) (ds : List Int), i + f = n → ds.length = n + 1 → ds.getD i 0 ≤ 60 → goI n L f i ds = goS n L f i ds
  | 0, _, _, _, _, _ => rfl
  | f + 1, i, ds, hf, hl, h60 => by
    unfold goI goS
    cases hs : stS n i (L.getD i zeroI) ds with
    | none =>
      cases hi : stI n i (L.getD i zeroI) ds with
      | none => rfl
      | some d =>
        have := stI_no hl (by omega) hs hi
        exact goI_no (by omega) this.2
    | some d =>
      have := stI_of hl (by omega) h60 hs
      rw [this.1]
      exact go_eq f (i + 1) d (by omega) (by rw [st_len hs]; exact hl) this.2
def ds0 (n : Nat) : List Int := 0 :: List.replicate n (-1)
def resC (n : Nat) (L : List IN) : Option (List Int) := goS n L n 0 (ds0 n)
theorem res_eq (n : Nat) (L : List IN) : goI n L n 0 (ds0 n) = resC n L := go_eq n 0 _ (by omega) (by simp [ds0]) (by simp [ds0])
theorem head_set {ds : List Int} {i : Nat} {v : Int} (h : 0 < i) : (ds.set i v).getD 0 0 = ds.getD 0 0 := getD_set_ne (by omega)
theorem goS_head {n : Nat} {L : List IN} : ∀ (f i : Nat) (ds d : List Int), goS n L f i ds = some d → d.getD 0 0 = ds.getD 0 0 ∧ d.length = ds.length
  | 0, _, ds, d, h => by
    unfold goS finD at h
    split at h
    · simp only [Option.some.injEq] at h; rw [h]; exact ⟨rfl, rfl⟩
    · cases h
  | f + 1, i, ds, d, h => by
    unfold goS at h
    cases hs : stS n i (L.getD i zeroI) ds with
    | none => rw [hs] at h; cases h
    | some e =>
      rw [hs] at h
      have ih := goS_head f (i + 1) e d h
      have hl := st_len hs
      refine ⟨ih.1.trans ?_, ih.2.trans hl⟩
      unfold stS at hs
      split at hs
      case isFalse => cases hs
      case isTrue hc =>
      split at hs
      case isFalse => cases hs
      split at hs
      case isFalse => cases hs
      simp only [Option.some.injEq] at hs
      rw [← hs, head_set (by omega)]
      unfold setJ
      split
      · rename_i hj
        have := just_j hc.1 hj
        exact head_set (by omega)
      · rfl
def mxF (m : Int) (ds : List Int) : Int := ds.foldl max m
def mxI (ds : List Int) : Int := mxF (ds.getD 0 0) (ds.drop 1)
theorem mx_eq {ds : List Int} (h0 : ds.getD 0 0 = 0) : mxF 0 ds = mxI ds := by
  cases ds with
  | nil => rfl
  | cons a r =>
    have : a = 0 := by simpa using h0
    subst this
    rfl
theorem mxF_step {ds : List Int} {k : Nat} {m : Int} (h : k < ds.length) : mxF m (ds.drop k) = mxF (max m (ds.getD k 0)) (ds.drop (k + 1)) := by
  unfold mxF
  rw [List.drop_eq_getElem_cons h, List.foldl_cons, List.getD_eq_getElem?_getD, List.getElem?_eq_getElem h]
  rfl
theorem resC_mx {n : Nat} {L : List IN} {ds : List Int} (h : resC n L = some ds) : ds.length = n + 1 ∧ mxF 0 ds = mxI ds := by
  have := goS_head n 0 _ _ h
  exact ⟨by rw [this.2]; simp [ds0], mx_eq (by rw [this.1]; rfl)⟩

end Go.Proofs.YtcgcaomaofppiaaDoor
