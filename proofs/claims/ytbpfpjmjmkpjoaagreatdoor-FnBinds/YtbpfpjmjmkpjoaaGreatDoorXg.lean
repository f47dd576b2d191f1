/-
  What the specification says of a part.
-/
import Derived.Test.YtbpfpjmjmkpjoaaGreatDoorXc
namespace Go.Proofs.YtbpfpjmjmkpjoaaGreatDoor
open Go Go.RowKit

/-- Where a part begins, how deep it is, whether it is right. -/
def wF (L : List EN) : Nat → Nat → (Nat × Nat × Bool)
  | 0, _ => (0, 0, false)
  | _ + 1, 0 => (0, 0, false)
  | fu + 1, k + 1 =>
    let x := L.getD k zeroE
    if x.o = 1 then (k, 1, x.a == 0 && (x.b == 0 && (x.c == 0 && valB x.k x.n x.t)))
    else if x.o = 2 then (k, 1, x.a == 0 && (x.b == 0 && (inB x.c 0 2 && noV x)))
    else if 3 ≤ x.o ∧ x.o ≤ 5 then ((wF L fu k).1, (wF L fu k).2.1 + 1, (wF L fu k).2.2 && (x.a == (k : Int) - 1 && (x.b == 0 && (x.c == 0 && noV x))))
    else if 6 ≤ x.o ∧ x.o ≤ 13 then
      (if (wF L fu k).2.2 = true then ((wF L fu (wF L fu k).1).1, max (wF L fu (wF L fu k).1).2.1 (wF L fu k).2.1 + 1, (wF L fu (wF L fu k).1).2.2 && (x.a == ((wF L fu k).1 : Int) - 1 && (x.b == (k : Int) - 1 && (x.c == 0 && noV x))))
       else (0, 0, false))
    else (0, 0, false)
theorem wF_le (L : List EN) : ∀ fu k, (wF L fu k).1 ≤ k
  | 0, _ => by simp [wF]
  | _ + 1, 0 => by simp [wF]
  | fu + 1, k + 1 => by
    have h1 := wF_le L fu k
    have h2 := wF_le L fu (wF L fu k).1
    unfold wF
    dsimp only
    repeat' split
    all_goals first | (dsimp only; omega) | simp
theorem wF_dep (L : List EN) : ∀ fu k, (wF L fu k).2.1 ≤ fu
  | 0, _ => by simp [wF]
  | _ + 1, 0 => by simp [wF]
  | fu + 1, k + 1 => by
    have h1 := wF_dep L fu k
    have h2 := wF_dep L fu (wF L fu k).1
    unfold wF
    dsimp only
    repeat' split
    all_goals first | (dsimp only; omega) | simp
/-- Both say the same of a part. -/
def agreeP : Option (PT × Nat) → (Nat × Nat × Bool) → Prop
  | none, r => r.2.2 = false
  | some (p, f), r => r = (f, p.dep, true)
theorem and4 {a b c d : Bool} : (a && (b && (c && d))) = (a && (b && (d && c))) := by cases a <;> cases b <;> cases c <;> cases d <;> rfl
theorem agree (L : List EN) : ∀ fu k, agreeP (pF L fu k) (wF L fu k)
  | 0, _ => by simp [pF, wF, agreeP]
  | _ + 1, 0 => by simp [pF, wF, agreeP]
  | fu + 1, k + 1 => by
    have h1 := agree L fu k
    unfold pF wF
    dsimp only
    generalize L.getD k zeroE = x at *
    split
    · split
      · rename_i h; rw [h]; exact rfl
      · rename_i h; exact Bool.eq_false_iff.2 h
    · split
      · rw [show (x.a == 0 && (x.b == 0 && (noV x && inB x.c 0 2))) = (x.a == 0 && (x.b == 0 && (inB x.c 0 2 && noV x))) from and4]
        split
        · rename_i h; rw [h]; exact rfl
        · rename_i h; exact Bool.eq_false_iff.2 h
      · split
        · split
          · rename_i h
            rw [h]
            cases e : pF L fu k with
            | none => rw [e] at h1; have h1' : (wF L fu k).2.2 = false := h1; show (_ && true) = false; rw [h1']; rfl
            | some q => obtain ⟨p, f⟩ := q; rw [e] at h1; have h1' : wF L fu k = (f, p.dep, true) := h1; rw [h1']; exact rfl
          · rename_i h
            have h' : (x.a == (k : Int) - 1 && (x.b == 0 && (x.c == 0 && noV x))) = false := by simpa using h
            show (_ && _) = false
            rw [h']
            exact Bool.and_false _
        · split
          · cases e : pF L fu k with
            | none => rw [e] at h1; have h1' : (wF L fu k).2.2 = false := h1; rw [if_neg (by rw [h1']; decide)]; exact rfl
            | some q =>
              obtain ⟨p, f⟩ := q
              rw [e] at h1
              have h1' : wF L fu k = (f, p.dep, true) := h1
              have h2 := agree L fu f
              rw [h1']
              dsimp only
              rw [if_pos rfl]
              split
              · rename_i h
                rw [h]
                cases e2 : pF L fu f with
                | none => rw [e2] at h2; have h2' : (wF L fu f).2.2 = false := h2; show (_ && true) = false; rw [h2']; rfl
                | some q2 => obtain ⟨l, g⟩ := q2; rw [e2] at h2; have h2' : wF L fu f = (g, l.dep, true) := h2; rw [h2']; exact rfl
              · rename_i h
                have h' : (x.a == (f : Int) - 1 && (x.b == (k : Int) - 1 && (x.c == 0 && noV x))) = false := by simpa using h
                show (_ && _) = false
                rw [h']
                exact Bool.and_false _
          · exact rfl

end Go.Proofs.YtbpfpjmjmkpjoaaGreatDoor
