/-
  The code of a part as a function of lists.
-/
import Derived.Test.YtepeaabacfjheaaKa
import Derived.Test.YtepeaabacfjheaaXm
import Derived.Deep.RegionLaw
import Derived.Laws.AppendOwn
import Derived.Laws.AppendOwnNone
import Derived.Maps.AppendAt
namespace Go.Proofs.Ytepeaabacfjheaa
open Go Go.RowKit
attribute [local go_sem ↓] Go.wp_at_zero Go.wp_at_succ

set_option linter.unusedVariables false
set_option linter.unusedSimpArgs false
theorem step_app_any {P : Program} (w : World) {ops : Array Oper} {o : Oper} {a : Act} {K : Act → World → Prop} {Q : Exit → Act → World → Prop} {E : Prop} (hgd : o.guard = none) (s x : Operand) (t : TypeId)
    (ho : o.op = .call { callee := .builtin .append, args := #[s, x], argTypes := #[t, t] })
    (base : Nat) (e : TypeId) (i : TypeInfo) (z : Value) (size bytes : Nat) (ht : P.underlying t = some (.slice e)) (hi : P.info? e = some i) (hz : i.zero = some z)
    (hsize : i.size = size) (hby : i.bytes = bytes) (hzs : z.cells.size = size) (hsz : 0 < size)
    (v : Value) (n : Nat) (xs : List Value) (hs : a.eval s = v) (hown : w.ownsRow base e size v n xs)
    (ax : Option Addr) (m c : Nat) (news : List Value) (hx : a.eval x = .slice ax m c) (hnone : ax = none → m = 0 ∧ c = 0) (hl : news.length = m * size) (hnews : ∀ ad, ax = some ad → ∀ j u, news[j]? = some u → w.cell? (ad.add j) = some u) (h1 : ∀ u ∈ news, u.oneCell' = true)
    (h63 : n + m ≤ maxLen) (hbytes : (n + m) * bytes ≤ 140737488355328) (hbase : base ≤ w.heap.size)
    (h : ∀ a' c' w', w'.ownsRow base e size (.slice a' (n + m) c') (n + m) (xs ++ news) → w.grownBy w' v.ownBlock → (∀ g, ob a' = some g → v.ownBlock = some g ∨ g = w.heap.size) → K (a.put o.dst (.slice a' (n + m) c')) w') :
    if Region.wanted o (yielded ops a.tmps) = true then Oper.wp P o a w K Q else E := by
  have hw : Region.wanted o (yielded ops a.tmps) = true := by simp [Region.wanted, hgd]
  rw [if_pos hw]
  cases ax with
  | none =>
    obtain ⟨rfl, rfl⟩ := hnone rfl
    have hn : news = [] := List.eq_nil_of_length_eq_zero (by simpa using hl)
    subst hn
    obtain ⟨a', c', rfl, _⟩ := own_slc hown
    have hrun := run_append_owned_none (P := P) (w := w) base t o.type e i size ht hi _ n xs hown
    unfold Oper.wp execOp
    simp only [ho, resolve, invoke, builtin, Sem.run_bind, Sem.run_pure, Result.andThen_ok, List.map_toArray, List.map_cons, List.map_nil, hs, hx, hrun]
    exact h a' c' w (by simpa using hown) (World.grownBy.refl _ _) (fun g e => .inl (by rw [ob_slice]; exact e))
  | some ad =>
    obtain ⟨v', w', hr, hown', hgr, _, hblk⟩ := run_append_own_at (P := P) w base t o.type e i z size bytes ht hi hz hsize hby hzs hsz v n xs hown ad m c news hl (hnews ad rfl) h1 h63 hbytes hbase
    obtain ⟨a', c', rfl, _⟩ := own_slc hown'
    rw [ob_slice] at hblk
    unfold Oper.wp execOp
    simp only [ho, resolve, invoke, builtin, Sem.run_bind, Sem.run_pure, Result.andThen_ok, List.map_toArray, List.map_cons, List.map_nil, hs, hx, hr]
    exact h a' c' w' hown' hgr (fun g e => hblk.elim (fun k => .inl (k ▸ e)) (fun k => .inr (Option.some.inj (e.symm.trans k))))

def E0 : ByteArray := ⟨#[]⟩
def jmpI (op : Int) : Int := if op = 12 then 5 else if op = 13 then 6 else 0
/-- The code of a part whose first instruction stands at place m. -/
def codeP : PT → Nat → List IN
  | .con k n t, _ => [⟨1, 0, k, n, t⟩]
  | .col c, _ => [⟨2, c, 0, 0, ⟨#[]⟩⟩]
  | .una op p, m => codeP p m ++ [⟨3, op, 0, 0, ⟨#[]⟩⟩]
  | .bin op l r, m =>
    if jmpI op = 0 then codeP l m ++ codeP r (m + (codeP l m).length) ++ [⟨4, op, 0, 0, ⟨#[]⟩⟩]
    else codeP l m ++ [⟨jmpI op, ((m + (codeP l m).length + 1 + (codeP r (m + (codeP l m).length + 1)).length + 1 : Nat) : Int), 0, 0, ⟨#[]⟩⟩] ++ codeP r (m + (codeP l m).length + 1) ++ [⟨4, op, 0, 0, ⟨#[]⟩⟩]
def PT.cnt : PT → Nat
  | .con _ _ _ => 1
  | .col _ => 1
  | .una _ p => p.cnt + 1
  | .bin _ l r => l.cnt + r.cnt + 1
theorem code_len : ∀ (p : PT) (m : Nat), (codeP p m).length + 1 ≤ 2 * p.cnt
  | .con _ _ _, _ => by simp [codeP, PT.cnt]
  | .col _, _ => by simp [codeP, PT.cnt]
  | .una _ p, m => by have := code_len p m; simp [codeP, PT.cnt]; omega
  | .bin op l r, m => by
    rw [codeP, PT.cnt]
    have h1 := code_len l m
    split
    · have h2 := code_len r (m + (codeP l m).length)
      simp only [List.length_append, List.length_cons, List.length_nil]; omega
    · have h2 := code_len r (m + (codeP l m).length + 1)
      simp only [List.length_append, List.length_cons, List.length_nil]; omega
theorem cellsI_append (xs ys : List IN) : cellsI (xs ++ ys) = cellsI xs ++ cellsI ys := by unfold cellsI; rw [List.flatMap_append]
theorem cellsI_one (x : IN) : cellsI [x] = cI x := by simp [cellsI]
theorem oneI (x : IN) : ∀ y ∈ cI x, y.oneCell' = true := by
  intro y hy
  simp only [cI, List.mem_cons, List.not_mem_nil, or_false] at hy
  rcases hy with rfl | rfl | rfl | rfl | rfl <;> rfl
theorem infoIns : (Try.prog.info? 50).map (fun i => (i.zero, i.size, i.bytes)) = some (some (.agg #[.int .i64 0, .int .i64 0, .int .i64 0, .int .i64 0, .string ⟨#[]⟩]), 5, 48) := by kernel_rfl
/-- A list of the call's own that is grown by more. -/
structure App (w w' : World) (B : Nat) (a a' : Option Addr) (cap' : Nat) (M : List IN) : Prop where
  own : w'.ownsRow B 50 5 (.slice a' M.length cap') M.length (cellsI M)
  gr : w.grownBy w' (ob a)
  new : ∀ g, ob a' = some g → ob a = some g ∨ w.heap.size ≤ g
theorem App.blk {w : World} {B n cap : Nat} {a : Option Addr} {M : List IN} (h : w.ownsRow B 50 5 (.slice a n cap) n (cellsI M)) : ∀ g, ob a = some g → B ≤ g ∧ g < w.heap.size := fun g hg => by
  rcases own_form h with ⟨e, _⟩ | ⟨g', c', hv, hb, hl⟩
  · simp only [Value.slice.injEq] at e; rw [e.1] at hg; cases hg
  · simp only [Value.slice.injEq] at hv; rw [hv.1] at hg; cases hg; exact ⟨hb, hl⟩
theorem grown_pre {w v w' : World} {r : Option Nat} (h : Below w.heap.size w v) (g : v.grownBy w' r) : w.grownBy w' r := (grown_of_below h r).trans g
theorem App.trans {w v w' : World} {B : Nat} {a a1 a2 : Option Addr} {c1 c2 : Nat} {M1 M2 : List IN} (h : App w v B a a1 c1 M1) (k : App v w' B a1 a2 c2 M2) : App w w' B a a2 c2 M2 := by
  refine ⟨k.own, ⟨k.gr.os.trans h.gr.os, k.gr.tape.trans h.gr.tape, k.gr.output.trans h.gr.output, Nat.le_trans h.gr.size k.gr.size, fun j hj hne => ?_⟩, fun g hg => ?_⟩
  · rw [k.gr.block j (Nat.lt_of_lt_of_le hj h.gr.size) (fun e => by rcases h.new j e.symm with q | q; exact hne q.symm; omega)]
    exact h.gr.block j hj hne
  · rcases k.new g hg with q | q
    · exact h.new g q
    · exact .inr (Nat.le_trans h.gr.size q)
theorem App.pre {w v w' : World} {B : Nat} {a a1 : Option Addr} {c1 : Nat} {M1 : List IN} (h : Below w.heap.size w v) (k : App v w' B a a1 c1 M1) : App w w' B a a1 c1 M1 :=
  ⟨k.own, grown_pre h k.gr, fun g hg => by rcases k.new g hg with q | q; exact .inl q; exact .inr (Nat.le_trans h.size q)⟩
theorem App.box {w w' : World} {B : Nat} {a a' : Option Addr} {cap' : Nat} {M : List IN} (h : App w w' B a a' cap' M) {g : Nat} {t : TypeId} {x : Array Value} (hx : Box w g t x) (hg : ob a ≠ some g) : Box w' g t x := hx.grown h.gr hg
theorem set_mid {α : Type} (A C : List α) (x y : α) : (A ++ x :: C).set A.length y = A ++ y :: C := by
  rw [List.set_append, if_neg (by omega), Nat.sub_self]; rfl
theorem cells_setp : ∀ (vs : List IN) (i : Nat) (q : Int), i < vs.length → (cellsI vs).set (i * 5 + 1) (.int .i64 q) = cellsI (vs.set i { (vs.getD i zeroI) with p := q })
  | u :: vs, 0, q, _ => rfl
  | u :: vs, i + 1, q, h => by
    have ih := cells_setp vs i q (by simpa using h)
    rw [show cellsI (u :: vs) = .int .i64 u.o :: .int .i64 u.p :: .int .i64 u.k :: .int .i64 u.n :: .string u.t :: cellsI vs from rfl, show (i + 1) * 5 + 1 = (i * 5 + 1) + 1 + 1 + 1 + 1 + 1 by omega]
    rw [List.set_cons_succ, List.set_cons_succ, List.set_cons_succ, List.set_cons_succ, List.set_cons_succ, ih]
    rfl

end Go.Proofs.Ytepeaabacfjheaa
