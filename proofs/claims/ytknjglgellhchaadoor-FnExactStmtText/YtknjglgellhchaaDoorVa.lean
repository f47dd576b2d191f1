/-
  StmtText: what it tells, and the tables.
-/
import Derived.Test.YtknjglgellhchaaDoorUa
import Derived.Test.YtknjglgellhchaaDoorTe
import Derived.Test.YtknjglgellhchaaDoorSb
import Derived.Test.YtknjglgellhchaaDoorSe
import Derived.Deep.RegionHeld3
namespace Go.Proofs.YtknjglgellhchaaDoor
open Go Go.RowKit
attribute [local go_sem ↓] Go.wp_at_zero Go.wp_at_succ

set_option linter.unusedVariables false
set_option linter.unusedSimpArgs false
def kwT (k : Int) : ByteArray := if k = 1 then ⟨#[115, 101, 108, 101, 99, 116]⟩ else if k = 2 then ⟨#[105, 110, 115, 101, 114, 116]⟩ else if k = 3 then ⟨#[117, 112, 100, 97, 116, 101]⟩ else ⟨#[100, 101, 108, 101, 116, 101]⟩
def midL (k i : Int) (u v : VV) (c : Int) (LS : List EN) (sn : Nat) : List ByteArray := if k = 2 then [rwS i u v 0, rwS i u v 1, rwS i u v 2] else if k = 3 then [⟨#[115, 101, 116]⟩, clT c, ⟨#[61]⟩, xtS LS sn] else []
def whL (LW : List EN) (wn : Nat) : List ByteArray := if wn = 0 then [] else [⟨#[119, 104, 101, 114, 101]⟩, xtS LW wn]
def orL (o : Int) (d : Bool) : List ByteArray := if noB o d then [] else ⟨#[111, 114, 100, 101, 114]⟩ :: clT o :: (if d then [⟨#[100, 101, 115, 99]⟩] else [])
/-- A statement's words. -/
def stL (k tb i : Int) (u v : VV) (c : Int) (LS : List EN) (sn : Nat) (LW : List EN) (wn : Nat) (o : Int) (d : Bool) : List ByteArray := [kwT k, itB tb] ++ (midL k i u v c LS sn ++ (whL LW wn ++ orL o d))
def stS (k tb i : Int) (u v : VV) (c : Int) (LS : List EN) (sn : Nat) (LW : List EN) (wn : Nat) (o : Int) (d : Bool) : ByteArray := if stB k tb (rowZ i u v) (rowB i u v) c sn (okX LS sn) wn (okX LW wn) o d then joinS (stL k tb i u v c LS sn LW wn o d) else ⟨#[]⟩
def stE (k tb i : Int) (u v : VV) (c : Int) (LS : List EN) (sn : Nat) (LW : List EN) (wn : Nat) (o : Int) (d : Bool) : Int := if stB k tb (rowZ i u v) (rowB i u v) c sn (okX LS sn) wn (okX LW wn) o d then 0 else 1
theorem st_no {k tb i : Int} {u v : VV} {c : Int} {LS : List EN} {sn : Nat} {LW : List EN} {wn : Nat} {o : Int} {d : Bool} (h : stB k tb (rowZ i u v) (rowB i u v) c sn (okX LS sn) wn (okX LW wn) o d = false) : stS k tb i u v c LS sn LW wn o d = ⟨#[]⟩ ∧ stE k tb i u v c LS sn LW wn o d = 1 := by unfold stS stE; rw [h]; exact ⟨rfl, rfl⟩
theorem st_yes {k tb i : Int} {u v : VV} {c : Int} {LS : List EN} {sn : Nat} {LW : List EN} {wn : Nat} {o : Int} {d : Bool} (h : stB k tb (rowZ i u v) (rowB i u v) c sn (okX LS sn) wn (okX LW wn) o d = true) : stS k tb i u v c LS sn LW wn o d = joinS (stL k tb i u v c LS sn LW wn o d) ∧ stE k tb i u v c LS sn LW wn o d = 0 := by unfold stS stE; rw [h]; exact ⟨rfl, rfl⟩
def TabW (w : World) : Prop := w.cell? ⟨0, 0, none⟩ = some (.string ⟨#[]⟩) ∧ w.cell? ⟨0, 1, none⟩ = some (.string ⟨#[115, 101, 108, 101, 99, 116]⟩) ∧ w.cell? ⟨0, 2, none⟩ = some (.string ⟨#[105, 110, 115, 101, 114, 116]⟩) ∧ w.cell? ⟨0, 3, none⟩ = some (.string ⟨#[117, 112, 100, 97, 116, 101]⟩) ∧ w.cell? ⟨0, 4, none⟩ = some (.string ⟨#[100, 101, 108, 101, 116, 101]⟩)
structure TabX (w : World) : Prop where
  t : Tabs w
  k : TabW w
theorem TabX.below {w w' : World} (h : TabX w) (hb : Below w.heap.size w w') : TabX w' := by
  obtain ⟨ht, c0, c1, c2, c3, c4⟩ := h
  exact ⟨ht.below hb, far6 hb c0, far6 hb c1, far6 hb c2, far6 hb c3, far6 hb c4⟩
theorem strs_app (xs ys : List ByteArray) : strs xs ++ strs ys = strs (xs ++ ys) := by simp [strs]
theorem strs_cells (xs : List ByteArray) : ∀ y ∈ strs xs, y.oneCell' = true := by
  intro y hy
  obtain ⟨x, _, rfl⟩ := List.mem_map.1 hy
  rfl
theorem new_atL (X : World) (xs : List ByteArray) (g : Nat) (hg : X.heap.size = g) : ∀ ad, some (⟨g, 0, none⟩ : Addr) = some ad → ∀ j y, (strs xs)[j]? = some y → (X.alloc (.cells (strs xs).toArray 9)).cell? (ad.add j) = some y := by
  intro ad ea j y hj
  cases ea
  have hx := (Box.new X (strs xs).toArray 9).cell j
  rw [hg] at hx
  rw [addr_add, Nat.zero_add, hx]
  simpa using hj
theorem own_some {w : World} {B n c : Nat} {a : Option Addr} {xs : List Value} (h : w.ownsRow B 9 1 (.slice a n c) n xs) (h0 : 0 < n) : ∃ g, a = some ⟨g, 0, none⟩ ∧ ∀ ad, some (⟨g, 0, none⟩ : Addr) = some ad → ∀ j y, xs[j]? = some y → w.cell? (ad.add j) = some y := by
  rcases h.2 with ⟨_, e⟩ | ⟨g, cap, cur, hv, hb, hg, hnc, hcm, hcs, ht⟩
  · omega
  · have hv' := hv
    simp only [Value.slice.injEq] at hv'
    obtain ⟨rfl, _, rfl⟩ := hv'
    refine ⟨g, rfl, fun ad ea j y hj => ?_⟩
    cases ea
    have hl := h.1
    have hlt : j < xs.length := (List.getElem?_eq_some_iff.1 hj).1
    rw [addr_add, Nat.zero_add, h.cellAt j (by omega), hj]
theorem app_L0 {V w5 w9 : World} {n c : Nat} {a : Option Addr} {xs : List Value} (hL : Below V.heap.size V w5) (hO : w5.ownsRow V.heap.size 9 1 (.slice a n c) n xs) (hg : w5.grownBy w9 (Value.slice a n c).ownBlock) : Below V.heap.size V w9 := by
  rw [ob_slice] at hg
  have hbl := own_blk hO
  refine hL.trans ⟨hg.os, hg.tape, hg.output, Nat.le_trans (by have := hL.size; omega) hg.size, fun j hj => ?_⟩
  exact hg.block j (by have := hL.size; omega) (fun e => by have := (hbl j e.symm).1; omega)
theorem app_L1 {V w5 w9 : World} {n c : Nat} {a : Option Addr} {xs : List Value} {o : Obj} (hL : Below V.heap.size V w5) (hO : w5.ownsRow V.heap.size 9 1 (.slice a n c) n xs) (hg : (w5.alloc o).grownBy w9 (Value.slice a n c).ownBlock) : Below V.heap.size V w9 := by
  have hb : Below w5.heap.size w5 (w5.alloc o) := (Below.refl _ _).alloc (Nat.le_refl _) _
  exact app_L0 (hL.trans (hb.mono hL.size)) (own_below hO hb) hg
theorem xtS_size {L : List EN} {n : Nat} (hl : L.length = n) (hs : ∀ v ∈ L, v.t.size ≤ maxLen) : (xtS L n).size ≤ 1200 := by
  unfold xtS
  cases ht : topX L n with
  | none => show (0 : Nat) ≤ 1200; omega
  | some p =>
    obtain ⟨h40, hp⟩ := top_in ht
    obtain ⟨hf, hw, _⟩ := pF_fine L hs n n p 0 hp (by omega)
    have := txP_size p hf
    show (txP p).size ≤ 1200
    omega
theorem c_ltX (L : List EN) (a : Option Addr) (n c : Nat) (w : World) (hok : okX L n = true) (hr : RdE w a n L) (hs : ∀ v ∈ L, v.t.size ≤ maxLen) :
    Calls Tryd.prog 29 #[.agg #[.slice a n c], .int .i64 ((n : Int) - 1)] w fun e w' => e = .returned (.string (xtS L n)) ∧ Below w.heap.size w w' := by
  cases ht : topX L n with
  | none => rw [← top_ok, ht] at hok; cases hok
  | some p =>
    obtain ⟨h40, hp⟩ := top_in ht
    have hpos := top_pos ht
    have e : xtS L n = txP p := by unfold xtS; rw [ht]
    rw [e]
    obtain ⟨j, rfl⟩ : ∃ j, n = j + 1 := ⟨n - 1, by omega⟩
    have ej : ((j + 1 : Nat) : Int) - 1 = (j : Int) := by omega
    rw [ej]
    exact c_lt L a (j + 1) c h40 hs (j + 1) j p 0 w hp (by omega) hr
theorem clT_nat (m : Nat) (h : m < 3) : (clT (m : Int)).size ≤ 4 := clT_size _

end Go.Proofs.YtknjglgellhchaaDoor
