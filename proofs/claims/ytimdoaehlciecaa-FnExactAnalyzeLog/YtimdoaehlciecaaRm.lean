/-
  Records of the log: what they say, and when one is right.
-/
import Derived.Test.YtimdoaehlciecaaBx
namespace Go.Proofs.Ytimdoaehlciecaa
open Go Go.RowKit
attribute [local go_sem ↓] Go.wp_at_zero Go.wp_at_succ


/-- What a record says. -/
structure DR where
  e : Int
  l : Int
  t : Int
  k : Int
  p : Int
  n : Int
  g : Int
  s : Int
  b : ByteArray
  a : ByteArray
def agR (D : DR) : Array Value := #[.int .i64 D.e, .int .i64 D.l, .int .i64 D.t, .int .i64 D.k, .int .i64 D.p, .int .i64 D.n, .int .i64 D.g, .int .i64 D.s, .string D.b, .string D.a]
def noT : ByteArray := ⟨#[]⟩
def zeroR : DR := ⟨0, 0, 0, 0, 0, 0, 0, 0, noT, noT⟩
def placeB (g s : Int) : Bool := inB g 0 7 && inB s 0 3
def endB (D : DR) : Bool := inB D.t 1 60 && decide (D.p = 0 ∧ D.n = 0 ∧ D.g = 0 ∧ D.s = 0 ∧ D.b.size = 0 ∧ D.a.size = 0)
def prevB (D : DR) : Bool := inB D.p 1 (D.l - 1) && endB { D with p := 0 }
def clrB (D : DR) : Bool := placeB D.g D.s && (decide (D.a.size ≤ 30) && (inB D.n 0 (D.l - 1) && prevB { D with g := 0, s := 0, a := noT, n := 0 }))
def updB (D : DR) : Bool := decide (D.n = 0) && (decide (D.b.size ≤ 30) && clrB { D with b := noT })
def stepB (D : DR) : Bool := if D.k = 2 then updB D else if D.k = 3 then clrB D else if D.k = 4 ∨ D.k = 5 then prevB D else if D.k = 1 then endB D else false
/-- The bytes of a text, as numbers. -/
def numsT (t : ByteArray) : List Int := t.toList.map fun b => (b.toNat : Int)
def prs (n : Nat) (r : List Int) : List (Int × Int) := (List.range n).map fun i => (r.getD (2 * i) 0, r.getD (2 * i + 1) 0)
def rc1 : List Int → Option (List (Int × Int) × List Int)
  | [] => none
  | z :: r => if r.length < 2 * z.toNat then none else some (prs z.toNat r, r.drop (2 * z.toNat))
def rg : List (Int × Int) → Int → Int → Int → Bool
  | [], _, _, _ => true
  | c :: r, lo, hi, l => inB c.1 lo hi && (inB c.2 1 (l - 1) && rg r (c.1 + 1) hi l)
def rc2 (t : List Int) : Option (List (Int × Int) × List (Int × Int)) :=
  match rc1 t with
  | none => none
  | some (ps, r) => match rc1 r with
    | none => none
    | some (ts, r') => if r' = [] then some (ps, ts) else none
def ckB (t : List Int) (l : Int) : Bool :=
  match rc2 t with
  | none => false
  | some (ps, ts) => decide (ts.length ≤ 10) && (rg ps 0 7 l && rg ts 1 60 l)
def plainB (D : DR) : Bool := decide (D.t = 0 ∧ D.k = 6 ∧ D.p = 0 ∧ D.n = 0 ∧ D.g = 0 ∧ D.s = 0 ∧ D.b.size = 0)
def checkB (D : DR) : Bool := plainB D && ckB (numsT D.a) D.l
def okLR (D : DR) : Bool := inB D.e 1 60 && (inB D.l 1 60 && (stepB D || checkB D))

/-! The specification's way. -/
def rgS : List (Int × Int) → Option Int → Int → Int → Int → Bool
  | [], _, _, _, _ => true
  | c :: r, q, lo, hi, l => inB c.1 lo hi && (inB c.2 1 (l - 1) && ((match q with | none => true | some q => decide (q < c.1)) && rgS r (some c.1) lo hi l))
theorem rgS_some : ∀ (ds : List (Int × Int)) (q lo hi l : Int), lo ≤ q + 1 → rgS ds (some q) lo hi l = rg ds (q + 1) hi l
  | [], _, _, _, _, _ => rfl
  | c :: r, q, lo, hi, l, h => by
    unfold rgS rg
    by_cases h1 : q + 1 ≤ c.1
    · rw [rgS_some r c.1 lo hi l (by omega)]
      have e1 : inB c.1 lo hi = inB c.1 (q + 1) hi := by unfold inB; exact decide_eq_decide.2 (by omega)
      have e2 : (q < c.1) := (by omega)
      rw [e1]
      simp [e2]
    · have e1 : inB c.1 (q + 1) hi = false := by unfold inB; exact decide_eq_false (by omega)
      have e2 : ¬ (q < c.1) := (by omega)
      rw [e1]
      simp [e2]
theorem rgS_none (ds : List (Int × Int)) (lo hi l : Int) : rgS ds none lo hi l = rg ds lo hi l := by
  cases ds with
  | nil => rfl
  | cons c r =>
    unfold rgS rg
    by_cases h1 : lo ≤ c.1
    · rw [rgS_some r c.1 lo hi l (by omega)]
      simp
    · have e1 : inB c.1 lo hi = false := by unfold inB; exact decide_eq_false (by omega)
      rw [e1]
      simp
theorem rg_len : ∀ (ds : List (Int × Int)) (lo hi l : Int), rg ds lo hi l = true → lo ≤ hi + 1 → (ds.length : Int) ≤ hi + 1 - lo
  | [], _, _, _, _, h => by simp; omega
  | c :: r, lo, hi, l, h, _ => by
    unfold rg at h
    simp only [Bool.and_eq_true] at h
    have h1 : lo ≤ c.1 ∧ c.1 ≤ hi := by simpa [inB] using h.1
    have := rg_len r (c.1 + 1) hi l h.2.2 (by omega)
    simp
    omega
def chgB (D : DR) : Bool := decide (D.k = 2 ∨ D.k = 3)
def okLS (D : DR) : Bool :=
  if inB D.e 1 60 && (inB D.l 1 60 && (inB D.k 1 6 && (inB D.p 0 (D.l - 1) && (inB D.n 0 (D.l - 1) && (inB D.g 0 7 && (inB D.s 0 3 && decide (D.b.size ≤ 30))))))) then
    (if D.k = 6 then decide (D.t = 0 ∧ D.p = 0 ∧ D.n = 0 ∧ D.g = 0 ∧ D.s = 0 ∧ D.b.size = 0) && ckB (numsT D.a) D.l
     else if inB D.t 1 60 && decide (D.a.size ≤ 30) then
       (if (¬ (D.k = 2 ∨ D.k = 3) ∧ (D.g ≠ 0 ∨ D.s ≠ 0 ∨ D.b.size ≠ 0 ∨ D.a.size ≠ 0)) ∨ (D.k ≠ 3 ∧ D.n ≠ 0) ∨ (D.k = 3 ∧ D.b.size ≠ 0) then false
        else decide ((D.k = 1) ↔ (D.p = 0)))
     else false)
  else false
theorem okLS_eq (D : DR) : okLS D = okLR D := by
  obtain ⟨e, l, t, k, p, n, g, s, b, a⟩ := D
  have hn : noT.size = 0 := rfl
  generalize hc : ckB (numsT a) l = c
  unfold okLS okLR checkB plainB stepB updB clrB prevB endB placeB inB
  simp only [hc]
  generalize hbs : b.size = bs
  generalize has : a.size = az
  clear hc hbs has
  simp only [hn]
  rw [Bool.eq_iff_iff]
  by_cases k6 : k = 6
  · subst k6
    cases c <;> simp <;> omega
  · by_cases k2 : k = 2
    · subst k2; simp; omega
    · by_cases k3 : k = 3
      · subst k3; simp; omega
      · by_cases k4 : k = 4
        · subst k4; simp; omega
        · by_cases k5 : k = 5
          · subst k5; simp; omega
          · by_cases k1 : k = 1
            · subst k1; simp; omega
            · simp [k1, k2, k3, k4, k5, k6]; omega

end Go.Proofs.Ytimdoaehlciecaa
