/-
  Least keys of branches that lie flat; the level over a level.
-/
import Derived.Test.YthnggpjgajkaeaaPc
namespace Go.Proofs.Ythnggpjgajkaeaa
open Go Go.RowKit
attribute [local go_sem ↓] Go.wp_at_zero Go.wp_at_succ

/-- The least key of a branch is s, d levels below. -/
def Lst (w : World) (z : Nat) : Nat → Nat → ByteArray → Prop
  | 0, p, s => ∃ ks, FlB w z p (s :: ks) []
  | d + 1, p, s => ∃ ks q us, FlB w z p ks (q :: us) ∧ us.length ≤ 4 ∧ Lst w z d q s
theorem Lst.map {w w' : World} {z z' : Nat} (f : ∀ q ks us, FlB w z q ks us → FlB w' z' q ks us) : ∀ {d p : Nat} {s : ByteArray}, Lst w z d p s → Lst w' z' d p s
  | 0, _, _, ⟨ks, h⟩ => ⟨ks, f _ _ _ h⟩
  | _ + 1, _, _, ⟨ks, q, us, h, hl, h2⟩ => ⟨ks, q, us, f _ _ _ h, hl, Lst.map f h2⟩
theorem Lst.below {w w' : World} {z d p : Nat} {s : ByteArray} (h : Lst w z d p s) (hb : Below w.heap.size w w') : Lst w' z d p s := h.map fun _ _ _ x => x.below hb
theorem Lst.up {w : World} {z z' d p : Nat} {s : ByteArray} (h : Lst w z d p s) (hz : z ≤ z') : Lst w z' d p s := h.map fun _ _ _ x => x.up hz
theorem Lst.grown {w w' : World} {z d p base n m c : Nat} {s : ByteArray} {a : Option Addr} {xs : List Value} (h : Lst w z d p s) (ho : w.ownsRow base 57 1 (.slice a m c) n xs) (hz : z ≤ base) (hg : w.grownBy w' (ob a)) : Lst w' z d p s := h.map fun _ _ _ x => x.grown ho hz hg
set_option maxRecDepth 100000 in
set_option maxHeartbeats 8000000 in
theorem c_leastD : ∀ (z d p : Nat) (s : ByteArray) (w : World), Lst w z d p s → Calls Try.prog 93 #[.pointer (some ⟨p, 0, none⟩)] w fun e w' => e = .returned (.string s) ∧ w' = w := by
  intro z d
  induction d with
  | zero =>
    rintro p s w ⟨ks, ka, kc, ia, ic, pl, x, r1, en, r2⟩
    have c0 : w.cell? ⟨p, 0, none⟩ = some (.slice ka (ks.length + 1) kc) := x.cell 0
    have c1 : w.cell? ⟨p, 1, none⟩ = some (.slice ia 0 ic) := x.cell 1
    have C1 := c_leafB p ia 0 ic w c1 (by omega)
    obtain ⟨b, off, rfl, hbl, hAb, hc⟩ := r1.2 (by simp)
    have d0 : w.cell? ⟨b, off, none⟩ = some (.string s) := by have := hc 0 (by simp); rw [Nat.add_zero] at this; rw [this]; rfl
    obtain ⟨n, hn⟩ : ∃ n, ks.length = n := ⟨_, rfl⟩
    rw [hn] at c0
    have g1 : (0 : Int) < (n : Int) + 1 := by omega
    clear hc r1 r2 x hAb en hn
    go_enter Try.func93, Try.ntmps93
    go_wp2_with fail
    refine C1.mono ?_
    rintro e w' ⟨rfl, hq⟩; have hq' := hq.symm; subst hq'; clear hq C1
    go_wp2
    go_ret
    exact ⟨rfl, rfl⟩
  | succ d ih =>
    rintro p s w ⟨ks, q, us, ⟨ka, kc, ia, ic, pl, x, r1, en, r2⟩, hl, h2⟩
    have c0 : w.cell? ⟨p, 0, none⟩ = some (.slice ka ks.length kc) := x.cell 0
    have c1 : w.cell? ⟨p, 1, none⟩ = some (.slice ia (us.length + 1) ic) := x.cell 1
    have C1 := c_leafB p ia (us.length + 1) ic w c1 (by omega)
    obtain ⟨b, off, rfl, hbl, hAb, hc⟩ := r2.2 (by simp)
    have d0 : w.cell? ⟨b, off, none⟩ = some (.pointer (some ⟨q, 0, none⟩)) := by have := hc 0 (by simp); rw [Nat.add_zero] at this; rw [this]; rfl
    have CC := ih q s w h2
    obtain ⟨n, hn⟩ : ∃ n, us.length = n := ⟨_, rfl⟩
    rw [hn] at c1 C1
    have g1 : (0 : Int) < (n : Int) + 1 := by omega
    rw [decide_eq_false (show ¬ n + 1 = 0 by omega)] at C1
    clear hc r1 r2 x hAb en hn h2 ih hl c0
    go_enter Try.func93, Try.ntmps93
    go_wp2_with fail
    refine C1.mono ?_
    rintro e w' ⟨rfl, hq⟩; have hq' := hq.symm; subst hq'; clear hq C1
    go_wp2_with fail
    refine CC.mono ?_
    rintro e w' ⟨rfl, hq⟩; have hq' := hq.symm; subst hq'; clear hq CC
    go_wp2
    go_ret
    exact ⟨rfl, rfl⟩
/-- A level: places and least keys. -/
def Lev (w : World) (z d : Nat) (ps : List Nat) (M : List ByteArray) : Prop := ps.length = M.length ∧ ∀ (i p : Nat), ps[i]? = some p → Lst w z d p (M.getD i ⟨#[]⟩)
theorem Lev.below {w w' : World} {z d : Nat} {ps : List Nat} {M : List ByteArray} (h : Lev w z d ps M) (hb : Below w.heap.size w w') : Lev w' z d ps M := ⟨h.1, fun i p e => (h.2 i p e).below hb⟩
/-- What lies over a level. -/
def upL (ds : List Nat) (M : List ByteArray) (ps : List Nat) : List (List ByteArray × List Nat) := ((cuts ds M).zip (cuts ds ps)).map fun v => (v.1.drop 1, v.2)
def upM (ds : List Nat) (M : List ByteArray) : List ByteArray := (cuts ds M).map fun v => v.getD 0 ⟨#[]⟩
theorem upL_len (ds : List Nat) (M : List ByteArray) (ps : List Nat) : (upL ds M ps).length = ds.length := by unfold upL; rw [List.length_map, List.length_zip, cuts_len, cuts_len, Nat.min_self]
theorem upM_len (ds : List Nat) (M : List ByteArray) : (upM ds M).length = ds.length := by unfold upM; rw [List.length_map, cuts_len]
theorem upL_at {ds : List Nat} {M : List ByteArray} {ps : List Nat} {i d : Nat} (h : ds[i]? = some d) : (upL ds M ps)[i]? = some (((M.drop (ds.take i).sum).take d).drop 1, (ps.drop (ds.take i).sum).take d) := by
  unfold upL
  have e : ((cuts ds M).zip (cuts ds ps))[i]? = some ((M.drop (ds.take i).sum).take d, (ps.drop (ds.take i).sum).take d) := List.getElem?_zip_eq_some.2 ⟨cuts_at ds M i d h, cuts_at ds ps i d h⟩
  rw [List.getElem?_map, e]
  rfl
theorem upM_at {ds : List Nat} {M : List ByteArray} {i d : Nat} (h : ds[i]? = some d) : (upM ds M)[i]? = some (((M.drop (ds.take i).sum).take d).getD 0 ⟨#[]⟩) := by
  unfold upM
  rw [List.getElem?_map, cuts_at ds M i d h]
  rfl

end Go.Proofs.Ythnggpjgajkaeaa
