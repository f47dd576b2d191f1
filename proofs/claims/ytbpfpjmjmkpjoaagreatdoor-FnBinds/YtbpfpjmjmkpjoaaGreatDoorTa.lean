/-
  Texts of expressions: what both sides say.
-/
import Derived.Test.YtbpfpjmjmkpjoaaGreatDoorXc
import Derived.Test.YtbpfpjmjmkpjoaaGreatDoorVu
import Derived.Test.YtbpfpjmjmkpjoaaGreatDoorYq
namespace Go.Proofs.YtbpfpjmjmkpjoaaGreatDoor
open Go Go.RowKit
attribute [local go_sem ↓] Go.wp_at_zero Go.wp_at_succ

set_option linter.unusedVariables false
set_option linter.unusedSimpArgs false
def sgT (op : Int) : ByteArray := if op = 6 then ⟨#[43]⟩ else if op = 7 then ⟨#[45]⟩ else if op = 8 then ⟨#[42]⟩ else if op = 9 then ⟨#[47]⟩ else if op = 10 then ⟨#[61]⟩ else if op = 11 then ⟨#[60]⟩ else if op = 12 then ⟨#[97, 110, 100]⟩ else if op = 13 then ⟨#[111, 114]⟩ else ⟨#[]⟩
def clT (c : Int) : ByteArray := if c = 0 then ⟨#[105, 100]⟩ else if c = 1 then ⟨#[110]⟩ else ⟨#[110, 97, 109, 101]⟩
def unT (op : Int) (s : ByteArray) : ByteArray := if op = 3 then ⟨#[40, 110, 111, 116, 32]⟩ ++ s ++ ⟨#[41]⟩ else if op = 4 then ⟨#[40]⟩ ++ s ++ ⟨#[32, 105, 115, 32, 110, 117, 108, 108, 41]⟩ else ⟨#[40, 45, 32, 40]⟩ ++ s ++ ⟨#[41, 41]⟩
def biT (op : Int) (a b : ByteArray) : ByteArray := ⟨#[40]⟩ ++ a ++ ⟨#[32]⟩ ++ sgT op ++ ⟨#[32]⟩ ++ b ++ ⟨#[41]⟩
/-- The text of a part. -/
def txP : PT → ByteArray
  | .con k n t => vtS k n t
  | .col c => clT c
  | .una op p => unT op (txP p)
  | .bin op l r => biT op (txP l) (txP r)
theorem sgT_size (op : Int) : (sgT op).size ≤ 3 := by
  unfold sgT
  repeat' split
  all_goals decide
theorem clT_size (c : Int) : (clT c).size ≤ 4 := by
  unfold clT
  repeat' split
  all_goals decide
/-- A bound of a text's length. -/
def PT.wt : PT → Nat
  | .con _ _ _ => 30
  | .col _ => 30
  | .una _ p => p.wt + 30
  | .bin _ l r => l.wt + r.wt + 30
/-- The columns' names and the signs, as the program's tables hold them. -/
def TabC (w : World) : Prop := w.cell? ⟨1, 0, none⟩ = some (.string ⟨#[105, 100]⟩) ∧ w.cell? ⟨1, 1, none⟩ = some (.string ⟨#[110]⟩) ∧ w.cell? ⟨1, 2, none⟩ = some (.string ⟨#[110, 97, 109, 101]⟩)
def TabS (w : World) : Prop := w.cell? ⟨2, 0, none⟩ = some (.string ⟨#[]⟩) ∧ w.cell? ⟨2, 1, none⟩ = some (.string ⟨#[]⟩) ∧ w.cell? ⟨2, 2, none⟩ = some (.string ⟨#[]⟩) ∧ w.cell? ⟨2, 3, none⟩ = some (.string ⟨#[]⟩) ∧ w.cell? ⟨2, 4, none⟩ = some (.string ⟨#[]⟩) ∧ w.cell? ⟨2, 5, none⟩ = some (.string ⟨#[]⟩) ∧ w.cell? ⟨2, 6, none⟩ = some (.string ⟨#[43]⟩) ∧ w.cell? ⟨2, 7, none⟩ = some (.string ⟨#[45]⟩) ∧ w.cell? ⟨2, 8, none⟩ = some (.string ⟨#[42]⟩) ∧ w.cell? ⟨2, 9, none⟩ = some (.string ⟨#[47]⟩) ∧ w.cell? ⟨2, 10, none⟩ = some (.string ⟨#[61]⟩) ∧ w.cell? ⟨2, 11, none⟩ = some (.string ⟨#[60]⟩) ∧ w.cell? ⟨2, 12, none⟩ = some (.string ⟨#[97, 110, 100]⟩) ∧ w.cell? ⟨2, 13, none⟩ = some (.string ⟨#[111, 114]⟩)
structure Tabs (w : World) : Prop where
  c : TabC w
  s : TabS w
  p : TabP w
theorem Tabs.below {w w' : World} (h : Tabs w) (hb : Below w.heap.size w w') : Tabs w' := by
  obtain ⟨⟨c0, c1, c2⟩, ⟨s0, s1, s2, s3, s4, s5, s6, s7, s8, s9, s10, s11, s12, s13⟩, hp⟩ := h
  exact ⟨⟨far6 hb c0, far6 hb c1, far6 hb c2⟩, ⟨far6 hb s0, far6 hb s1, far6 hb s2, far6 hb s3, far6 hb s4, far6 hb s5, far6 hb s6, far6 hb s7, far6 hb s8, far6 hb s9, far6 hb s10, far6 hb s11, far6 hb s12, far6 hb s13⟩, hp.below hb⟩
theorem Tabs.col {w : World} (h : Tabs w) (c : Nat) (hc : c < 3) : w.cell? ⟨1, c, none⟩ = some (.string (clT (c : Int))) := by
  obtain ⟨c0, c1, c2⟩ := h.c
  match c, hc with
  | 0, _ => exact c0
  | 1, _ => exact c1
  | 2, _ => exact c2
theorem Tabs.sign {w : World} (h : Tabs w) (k : Nat) (h6 : 6 ≤ k) (h13 : k < 14) : w.cell? ⟨2, k, none⟩ = some (.string (sgT (k : Int))) := by
  obtain ⟨s0, s1, s2, s3, s4, s5, s6, s7, s8, s9, s10, s11, s12, s13⟩ := h.s
  match k, h6, h13 with
  | 6, _, _ => exact s6
  | 7, _, _ => exact s7
  | 8, _, _ => exact s8
  | 9, _, _ => exact s9
  | 10, _, _ => exact s10
  | 11, _, _ => exact s11
  | 12, _, _ => exact s12
  | 13, _, _ => exact s13
set_option maxRecDepth 100000 in
set_option maxHeartbeats 4000000 in
theorem c_unT (op : Int) (s : ByteArray) (w : World) (h : 3 ≤ op ∧ op ≤ 5) (hs : s.size ≤ 1000000) : Calls Tryz.prog 104 #[.int .i64 op, .string s] w fun e w' => e = .returned (.string (unT op s)) ∧ w' = w := by
  have hop : op = 3 ∨ op = 4 ∨ op = 5 := by omega
  rcases hop with rfl | rfl | rfl
  all_goals
    go_enter Tryz.func104, Tryz.ntmps104
    go_wp2
    go_ret
    exact ⟨rfl, rfl⟩

end Go.Proofs.YtbpfpjmjmkpjoaaGreatDoor
