/-
  The specification's l11Put of any part, and its CompileExpr.
-/
import Derived.Test.YtepeaabacfjheaaKh
import Derived.Deep.RegionHeld3
namespace Go.Proofs.Ytepeaabacfjheaa
open Go Go.RowKit
attribute [local go_sem ↓] Go.wp_at_zero Go.wp_at_succ

set_option linter.unusedVariables false
set_option linter.unusedSimpArgs false
theorem own_emptyI {w : World} {B g : Nat} (h : Box w g 50 #[]) (hb : B ≤ g) : w.ownsRow B 50 5 (.slice (some ⟨g, 0, none⟩) 0 0) 0 [] :=
  ⟨by simp, .inr ⟨g, 0, #[], rfl, hb, h, Nat.le_refl _, Nat.zero_le _, by simp, by simp⟩⟩
theorem cond_some {α : Type} {c : Bool} {o : Option α} {z : α} (h : cond c o none = some z) : c = true ∧ o = some z := by
  cases c
  · cases h
  · exact ⟨rfl, h⟩
set_option maxRecDepth 100000 in
set_option maxHeartbeats 4000000 in
theorem c_lp (L : List EN) (n : Nat) (hn : n ≤ 1048576) : ∀ fu, IHS L n fu
  | 0 => fun k p f h => by simp [pF] at h
  | fu + 1 => by
    intro k p f h hk ea ec M a cap B w hr hea hO hB hl
    have IH : Hid (IHS L n fu) := c_lp L n hn fu
    rw [pF_step] at h
    obtain ⟨x, hx⟩ : ∃ x, x = L.getD k zeroE := ⟨_, rfl⟩
    rw [← hx] at h
    cases o1 : (x.o == 1) with
    | true =>
      rw [o1, cond_true] at h
      obtain ⟨_, h⟩ := cond_some h
      simp only [Option.some.injEq, Prod.mk.injEq] at h
      obtain ⟨rfl, rfl⟩ := h
      exact c_lp_con L n hn k x hk hx ea ec M a cap B w hr hea hO hB o1 (by simp [PT.cnt] at hl; omega)
    | false =>
    rw [o1, cond_false] at h
    cases o2 : (x.o == 2) with
    | true =>
      rw [o2, cond_true] at h
      obtain ⟨_, h⟩ := cond_some h
      simp only [Option.some.injEq, Prod.mk.injEq] at h
      obtain ⟨rfl, rfl⟩ := h
      exact c_lp_col L n hn k x hk hx ea ec M a cap B w hr hea hO hB o1 o2 (by simp [PT.cnt] at hl; omega)
    | false =>
    rw [o2, cond_false] at h
    cases o3 : inB x.o 3 5 with
    | true =>
      rw [o3, cond_true] at h
      obtain ⟨hc, h⟩ := cond_some h
      have hc1 : x.a = (k : Int) - 1 := by simp at hc; exact hc.1
      have u : x.o ≤ 5 := by simp [inB] at o3; omega
      cases e : pF L fu k with
      | none => rw [e] at h; cases h
      | some q =>
        obtain ⟨q, g⟩ := q
        rw [e] at h
        simp only [Option.some.injEq, Prod.mk.injEq] at h
        obtain ⟨rfl, rfl⟩ := h
        have hlt := pF_lt L fu k q g e
        obtain ⟨k', rfl⟩ : ∃ k', k = k' + 1 := ⟨k - 1, by omega⟩
        have := c_lp_una L n hn (k' + 1) x hk hx ea ec M a cap B w hr hea hO hB o1 o2 u k' g fu q IH rfl (by rw [hc1]; omega) e (by simp [PT.cnt] at hl; omega)
        rw [show M ++ codeP (.una x.o q) M.length = M ++ codeP q M.length ++ [(⟨3, x.o, 0, 0, ⟨#[]⟩⟩ : IN)] by rw [codeP, List.append_assoc]]
        exact this
    | false =>
    rw [o3, cond_false] at h
    obtain ⟨o4, h⟩ := cond_some h
    have u : ¬ x.o ≤ 5 := by simp [inB] at o4; omega
    cases e : pF L fu k with
    | none => rw [e] at h; cases h
    | some q =>
    obtain ⟨r, g⟩ := q
    rw [e] at h
    dsimp only at h
    obtain ⟨hc, h⟩ := cond_some h
    have hcs : x.a = (g : Int) - 1 ∧ x.b = (k : Int) - 1 := by simp at hc; exact ⟨hc.1, hc.2.1⟩
    cases e2 : pF L fu g with
    | none => rw [e2] at h; cases h
    | some q2 =>
    obtain ⟨l, fl⟩ := q2
    rw [e2] at h
    simp only [Option.some.injEq, Prod.mk.injEq] at h
    obtain ⟨rfl, rfl⟩ := h
    have hlt := pF_lt L fu k r g e
    have hlt2 := pF_lt L fu g l fl e2
    obtain ⟨kl, rfl⟩ : ∃ k', g = k' + 1 := ⟨g - 1, by omega⟩
    obtain ⟨kr, rfl⟩ : ∃ k', k = k' + 1 := ⟨k - 1, by omega⟩
    have hl' : M.length + 2 * l.cnt + 2 * r.cnt + 2 ≤ 1000 := by simp [PT.cnt] at hl; omega
    cases e12 : (x.o == 12) with
    | true =>
      have e13 : (x.o == 13) = false := by simp at e12 ⊢; omega
      exact c_lp_and L n hn (kr + 1) x hk hx ea ec M a cap B w hr hea hO hB o1 o2 u e12 e13 kl kr fl fu l r IH (by omega) (by omega) (by rw [hcs.1]; omega) (by rw [hcs.2]; omega) e2 e hl'
    | false =>
      cases e13 : (x.o == 13) with
      | true => exact c_lp_or L n hn (kr + 1) x hk hx ea ec M a cap B w hr hea hO hB o1 o2 u e12 e13 kl kr fl fu l r IH (by omega) (by omega) (by rw [hcs.1]; omega) (by rw [hcs.2]; omega) e2 e hl'
      | false => exact c_lp_no L n hn (kr + 1) x hk hx ea ec M a cap B w hr hea hO hB o1 o2 u e12 e13 kl kr fl fu l r IH (by omega) (by omega) (by rw [hcs.1]; omega) (by rw [hcs.2]; omega) e2 e hl'
set_option maxRecDepth 100000 in
set_option maxHeartbeats 4000000 in
theorem c_specCE (L : List EN) (ea : Option Addr) (n ec : Nat) (w : World) (hr : RdE w ea n L) (hn : n ≤ 1048576) (hs : ∀ v ∈ L, v.t.size ≤ maxLen) :
    Calls Try.prog 5 #[.agg #[.slice ea n ec]] w fun e w' => CPost w w' (ceL L n) (ceC L n) e := by
  obtain ⟨V, hV⟩ : ∃ V, w.alloc (.cells #[.slice ea n ec] 31) = V := ⟨_, rfl⟩
  have bV : Below w.heap.size w V := by rw [← hV]; exact (Below.refl _ _).alloc (Nat.le_refl _) _
  have BV : Box V w.heap.size 31 #[.slice ea n ec] := by rw [← hV]; exact Box.new _ _ _
  have HbV : Hid (Below w.heap.size w V) := bV
  have HBV : Hid (Box V w.heap.size 31 #[.slice ea n ec]) := BV
  have HR : Hid (RdE w ea n L) := hr
  have C1 := c_specX L ea n ec V (hr.below bV) hn hs
  have q0 : V.cell? ⟨w.heap.size, 0, none⟩ = some (.slice ea n ec) := BV.cell 0
  rw [← top_ok] at C1
  clear hr hs bV BV
  cases hp : topX L n with
  | none =>
    have E : Hid (ceL L n = [] ∧ ceC L n = 1) := by unfold Hid ceL ceC; rw [hp]; exact ⟨rfl, rfl⟩
    rw [hp, show (none : Option PT).isSome = false from rfl] at C1
    clear hp
    go_enter Try.func5, Try.ntmps5
    go_wp2_with fail
    refine C1.mono ?_
    rintro e w1 ⟨rfl, hb⟩
    have B1 : Hid (Below w.heap.size w w1) := HbV.out.trans (hb.mono HbV.out.size)
    clear hb C1
    go_wp2
    go_ret2
    refine ⟨⟨some ⟨w1.heap.size, 0, none⟩, 0, ?_, ?_⟩, B1.out.alloc B1.out.size _⟩
    · rw [E.out.1, E.out.2]; rfl
    · rw [E.out.1]; exact own_emptyI (Box.new _ _ _) B1.out.size
  | some p =>
    have E : Hid (ceL L n = codeP p 0 ∧ ceC L n = 0) := by unfold Hid ceL ceC; rw [hp]; exact ⟨rfl, rfl⟩
    obtain ⟨hn40, hpF, hcnt⟩ := top_parts hp
    have hpos : 0 < n := by have := pF_lt L n n p 0 hpF; omega
    obtain ⟨k, rfl⟩ : ∃ k, n = k + 1 := ⟨n - 1, by omega⟩
    rw [hp, show (some p : Option PT).isSome = true from rfl] at C1
    have CA : Hid (∀ W, Below w.heap.size w W → ∀ g, w.heap.size ≤ g → g ≤ W.heap.size → W.ownsRow g 50 5 (.slice (some ⟨g, 0, none⟩) 0 0) 0 [] → Calls Try.prog 15 #[.agg #[.slice ea (k + 1) ec], .int .i64 (k : Int), .slice (some ⟨g, 0, none⟩) 0 0] W fun e w' => APost W w' g (some ⟨g, 0, none⟩) (codeP p 0) e) := fun W hW g hg hgW hO => by
      have := c_lp L (k + 1) hn (k + 1) k p 0 hpF (by omega) ea ec [] (some ⟨g, 0, none⟩) 0 g W (HR.out.below hW) (fun b off e => by
        obtain ⟨b', off', e', hlt, _⟩ := HR.out.2 (by omega)
        rw [e] at e'
        cases e'
        omega) hO hgW (by simp; omega)
      simpa using this
    clear hp hcnt hn40 hpF
    go_enter Try.func5, Try.ntmps5
    go_wp2_with fail
    refine C1.mono ?_
    rintro e w1 ⟨rfl, hb⟩
    have B1 : Hid (Below w.heap.size w w1) := HbV.out.trans (hb.mono HbV.out.size)
    have q0 : w1.cell? ⟨w.heap.size, 0, none⟩ = some (.slice ea (k + 1) ec) := (HBV.out.belowS hb).cell 0
    clear hb C1
    obtain ⟨W, hW⟩ : ∃ W, w1.alloc (.cells #[] 50) = W := ⟨_, rfl⟩
    have bW : Hid (Below w.heap.size w W) := by unfold Hid; rw [← hW]; exact B1.out.alloc B1.out.size _
    have sW : Hid (W.heap.size = w1.heap.size + 1) := by unfold Hid; rw [← hW]; simp
    have C2 := CA.out W bW.out w1.heap.size B1.out.size (by have := sW.out; omega) (by rw [← hW]; exact own_emptyI (Box.new _ _ _) (Nat.le_refl _))
    go_wp2_with fail
    refine C2.mono ?_
    rintro e w2 ⟨a2, c2, rfl, A2⟩
    have B2 : Hid (Below w.heap.size w w2) := ⟨A2.gr.os.trans bW.out.os, A2.gr.tape.trans bW.out.tape, A2.gr.output.trans bW.out.output, Nat.le_trans bW.out.size A2.gr.size, fun j hj => (A2.gr.block j (by have := bW.out.size; omega) (fun e => by have : w1.heap.size = j := (Option.some.inj e).symm; have := B1.out.size; omega)).trans (bW.out.block j hj)⟩
    have O2 : Hid (w2.ownsRow w.heap.size 50 5 (.slice a2 (codeP p 0).length c2) (codeP p 0).length (cellsI (codeP p 0))) := A2.own.down B1.out.size
    clear A2 C2
    go_wp2
    go_ret2
    refine ⟨⟨a2, c2, ?_, ?_⟩, B2.out⟩
    · rw [E.out.1, E.out.2]; rfl
    · rw [E.out.1]; exact O2.out

end Go.Proofs.Ytepeaabacfjheaa
