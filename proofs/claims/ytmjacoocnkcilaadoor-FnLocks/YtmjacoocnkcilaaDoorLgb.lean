/-
  Where waits lead to: the program's walk.
-/
import Derived.Test.YtmjacoocnkcilaaDoorLga
import Derived.Test.YtmjacoocnkcilaaDoorLo
import Derived.Deep.RegionWith
import Derived.Deep.DeepCutAuto
namespace Go.Proofs.YtmjacoocnkcilaaDoor
open Go Go.RowKit
attribute [local go_sem ↓] Go.wp_at_zero Go.wp_at_succ

inductive Rch (ws : List WK) (x : Int) : Int → Prop
  | one (v : WK) : v ∈ ws → v.x = x → Rch ws x v.f
  | step (y : Int) (v : WK) : Rch ws x y → v ∈ ws → v.x = y → Rch ws x v.f
abbrev NM := Nat → B64
def cN (f : NM) : Array Value := ((List.range 61).map (fun i => Value.int .u64 ((f i).toNat : Int))).toArray
theorem cN_get (f : NM) {j : Nat} (h : j < 61) : (cN f)[j]? = some (.int .u64 ((f j).toNat : Int)) := by
  unfold cN
  rw [List.getElem?_toArray, List.getElem?_map, List.getElem?_range h]; rfl
def nxS (f : NM) (v : WK) : NM := fun i => if (i : Int) = v.x then orT (f i) (bitT v.f) else f i
theorem cN_set (f : NM) {j : Nat} (h : j < 61) (y : Int) : (cN f).setIfInBounds j (.int .u64 ((orT (f j) (bitT y)).toNat : Int)) = cN (nxS f ⟨(j : Int), y⟩) := by
  apply Array.ext_getElem?
  intro i
  rw [Array.getElem?_setIfInBounds]
  by_cases e : j = i
  · subst e
    rw [if_pos rfl, cN_get _ h]
    have : j < (cN f).size := by simp [cN]; omega
    simp [this, nxS]
  · rw [if_neg e]
    by_cases hi : i < 61
    · rw [cN_get _ hi, cN_get _ hi]
      unfold nxS
      rw [if_neg (fun h => e (by have : (i : Int) = (j : Int) := h; omega))]
    · rw [Array.getElem?_eq_none (by simp [cN]; omega), Array.getElem?_eq_none (by simp [cN]; omega)]
def nx (ws : List WK) (k : Nat) : NM := (ws.take k).foldl nxS (fun _ => 0#64)
theorem nx_step (ws : List WK) (k : Nat) (hk : k < ws.length) : nx ws (k + 1) = nxS (nx ws k) (ws.getD k dW) := by
  unfold nx
  rw [List.take_add_one, List.foldl_append, List.getElem?_eq_getElem hk, List.getD_eq_getElem?_getD, List.getElem?_eq_getElem hk]
  rfl
theorem okW_bounds {v : WK} (h : okW v = true) : (1 ≤ v.x ∧ v.x ≤ 60) ∧ (1 ≤ v.f ∧ v.f ≤ 60) ∧ v.x ≠ v.f := by
  unfold okW at h
  simp only [Bool.and_eq_true, inB_iff, decide_eq_true_eq] at h
  exact ⟨h.1.1, h.1.2, h.2⟩
theorem fold_nx (a : Nat) (y : Int) (hy : 0 ≤ y) : ∀ (L : List WK) (f : NM), (∀ v ∈ L, okW v = true) → inT (L.foldl nxS f a) y = (inT (f a) y || L.any (fun v => decide (v.x = (a : Int)) && decide (v.f = y)))
  | [], f, _ => by simp
  | v :: L, f, h => by
    rw [List.foldl_cons, fold_nx a y hy L (nxS f v) (fun u hu => h u (List.mem_cons_of_mem _ hu)), List.any_cons, ← Bool.or_assoc]
    congr 1
    have hb := okW_bounds (h v (List.mem_cons_self))
    unfold nxS
    by_cases e : (a : Int) = v.x
    · rw [if_pos e, inT_or (by omega) (by omega) hy]; simp [e]
    · have : ¬ v.x = (a : Int) := fun h => e h.symm
      rw [if_neg e]; simp [this]
theorem nx_in (ws : List WK) (a : Nat) (y : Int) (hy : 0 ≤ y) (hall : ws.all okW = true) : inT (nx ws ws.length a) y = true ↔ ∃ v ∈ ws, v.x = (a : Int) ∧ v.f = y := by
  unfold nx
  rw [List.take_length, fold_nx a y hy ws _ (List.all_eq_true.1 hall), inT_zero, Bool.false_or, List.any_eq_true]
  simp only [Bool.and_eq_true, decide_eq_true_eq]
/-- What holds of the sets 'met' and 'todo' ahead of each round. -/
structure Inv (ws : List WK) (x : Nat) (met todo : B64) : Prop where
  rch : ∀ y : Int, 0 ≤ y → inT met y = true → Rch ws x y
  sub : ∀ y : Int, 0 ≤ y → inT todo y = true → inT met y = true
  start : ∀ y : Int, 0 ≤ y → inT (nx ws ws.length x) y = true → inT met y = true
  shut : ∀ a : Nat, inT met a = true → inT todo a = false → ∀ y : Int, 0 ≤ y → inT (nx ws ws.length a) y = true → inT met y = true
theorem Inv.begin (ws : List WK) (x : Nat) (hall : ws.all okW = true) : Inv ws x (nx ws ws.length x) (nx ws ws.length x) :=
  ⟨fun y hy h => by obtain ⟨v, hv, h1, h2⟩ := (nx_in ws x y hy hall).1 h; rw [← h2]; exact .one v hv h1, fun _ _ h => h, fun _ _ h => h, fun a h1 h2 => by rw [h1] at h2; cases h2⟩
theorem rch_pos {ws : List WK} {x y : Int} (hall : ws.all okW = true) (h : Rch ws x y) : 1 ≤ y ∧ y ≤ 60 := by
  cases h with
  | one v hv _ => exact (okW_bounds (List.all_eq_true.1 hall v hv)).2.1
  | step _ v _ hv _ => exact (okW_bounds (List.all_eq_true.1 hall v hv)).2.1
theorem Inv.next {ws : List WK} {x : Nat} {met todo : B64} (I : Inv ws x met todo) (hall : ws.all okW = true) {k : Nat} (hk : k < 64) (hin : inT todo k = true) :
    Inv ws x (orT met (nx ws ws.length k)) (orT (subT todo (bitT k)) (subT (nx ws ws.length k) met)) := by
  have hsub : ∀ y : Int, 0 ≤ y → inT (orT (subT todo (bitT k)) (subT (nx ws ws.length k) met)) y = ((inT todo y && !decide ((k : Int) = y)) || (inT (nx ws ws.length k) y && !inT met y)) := fun y hy => by
    rw [inT_or2]
    by_cases h64 : y < 64
    · rw [inT_sub (by omega) (by omega) hy h64]
      congr 1
      unfold subT inT
      rw [BitVec.getLsbD_and, BitVec.getLsbD_not, decide_eq_true (by omega : y.toNat < 64), Bool.true_and]
    · rw [inT_hi (by omega), inT_hi (by omega), inT_hi (s := todo) (by omega), inT_hi (s := nx ws ws.length k) (by omega)]; rfl
  have hmk : inT met k = true := I.sub k (by omega) hin
  refine ⟨fun y hy h => ?_, fun y hy h => ?_, fun y hy h => ?_, fun a h1 h2 y hy h => ?_⟩
  · rw [inT_or2, Bool.or_eq_true] at h
    rcases h with h | h
    · exact I.rch y hy h
    · obtain ⟨v, hv, e1, e2⟩ := (nx_in ws k y hy hall).1 h
      rw [← e2]
      exact .step k v (I.rch k (by omega) hmk) hv e1
  · rw [hsub y hy, Bool.or_eq_true, Bool.and_eq_true, Bool.and_eq_true] at h
    rw [inT_or2, Bool.or_eq_true]
    rcases h with h | h
    · exact .inl (I.sub y hy h.1)
    · exact .inr h.1
  · rw [inT_or2, Bool.or_eq_true]; exact .inl (I.start y hy h)
  · rw [hsub a (by omega)] at h2
    rw [inT_or2, Bool.or_eq_true] at h1 ⊢
    simp only [Bool.or_eq_false_iff, Bool.and_eq_false_iff, Bool.not_eq_false'] at h2
    obtain ⟨h3, h4⟩ := h2
    by_cases e : (k : Int) = (a : Int)
    · have e' : k = a := by omega
      rw [e']; exact .inr h
    · have h5 : inT todo a = false := by
        rcases h3 with h3 | h3
        · exact h3
        · exact absurd (of_decide_eq_true h3) e
      have h6 : inT met a = true := by
        rcases h1 with h1 | h1
        · exact h1
        · rcases h4 with h4 | h4
          · rw [h4] at h1; cases h1
          · exact h4
      exact .inl (I.shut a h6 h5 y hy h)
theorem Inv.done {ws : List WK} {x : Nat} {met : B64} (I : Inv ws x met 0#64) (hall : ws.all okW = true) : ∀ y, Rch ws x y → inT met y = true := by
  intro y h
  induction h with
  | one v hv e => exact I.start v.f (by have := okW_bounds (List.all_eq_true.1 hall v hv); omega) ((nx_in ws x v.f (by have := okW_bounds (List.all_eq_true.1 hall v hv); omega) hall).2 ⟨v, hv, e, rfl⟩)
  | step y v hr hv e ih =>
    have hp := rch_pos hall hr
    have hb := okW_bounds (List.all_eq_true.1 hall v hv)
    obtain ⟨a, ha⟩ : ∃ a : Nat, y = (a : Int) := ⟨y.toNat, by omega⟩
    rw [ha] at ih e
    exact I.shut a ih (inT_zero _) v.f (by omega) ((nx_in ws a v.f (by omega) hall).2 ⟨v, hv, e, rfl⟩)
def meas (met todo : Nat) : Nat := (18446744073709551616 - met) * 18446744073709551616 + todo
theorem meas_less {met todo n : B64} {k : Nat} (hk : k < 64) (hin : inT todo k = true) : meas (orT met n).toNat (orT (subT todo (bitT k)) (subT n met)).toNat < meas met.toNat todo.toNat := by
  have l1 := met.isLt
  have l2 := (orT met n).isLt
  have l3 := (orT (subT todo (bitT k)) (subT n met)).isLt
  have l4 := todo.isLt
  by_cases e : orT met n = met
  · have hz : subT n met = 0#64 := by
      apply BitVec.eq_of_getLsbD_eq
      intro i hi
      have := congrArg (fun z => z.getLsbD i) e
      unfold orT at this
      simp only [BitVec.getLsbD_or] at this
      unfold subT
      rw [BitVec.getLsbD_and, BitVec.getLsbD_not, BitVec.getLsbD_zero, decide_eq_true hi, Bool.true_and]
      cases h1 : met.getLsbD i <;> cases h2 : n.getLsbD i <;> simp_all
    rw [e, hz]
    have ho : orT (subT todo (bitT k)) 0#64 = subT todo (bitT k) := by unfold orT; simp
    rw [ho]
    have hlt : (subT todo (bitT k)).toNat < todo.toNat := by
      have hle : (subT todo (bitT k)).toNat ≤ todo.toNat := by unfold subT; rw [BitVec.toNat_and]; exact Nat.and_le_left
      rcases Nat.lt_or_ge (subT todo (bitT k)).toNat todo.toNat with h | h
      · exact h
      · have he : subT todo (bitT k) = todo := BitVec.eq_of_toNat_eq (by omega)
        have := congrArg (fun z => inT z (k : Int)) he
        simp only [inT_sub (show (0 : Int) ≤ (k : Int) by omega) (by omega) (show (0 : Int) ≤ (k : Int) by omega) (by omega), hin] at this
        simp at this
    unfold meas; omega
  · have hgt : met.toNat < (orT met n).toNat := by
      have hle : met.toNat ≤ (orT met n).toNat := by unfold orT; rw [BitVec.toNat_or]; exact Nat.left_le_or
      rcases Nat.lt_or_ge met.toNat (orT met n).toNat with h | h
      · exact h
      · exact absurd (BitVec.eq_of_toNat_eq (by omega)) e
    unfold meas; omega

end Go.Proofs.YtmjacoocnkcilaaDoor
