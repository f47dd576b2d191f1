/-
  appendCode of any part, and the program's CompileExpr.
-/
import Derived.Test.YtepeaabacfjheaaKe
import Derived.Deep.RegionHeld3
namespace Go.Proofs.Ytepeaabacfjheaa
open Go Go.RowKit
attribute [local go_sem ↓] Go.wp_at_zero Go.wp_at_succ

set_option linter.unusedVariables false
set_option linter.unusedSimpArgs false
set_option maxRecDepth 100000 in
set_option maxHeartbeats 4000000 in
theorem c_ac_bin (op : Int) (l r : PT) (IHl : Hid (∀ (M : List IN) (a : Option Addr) (cap B : Nat) (w : World), w.ownsRow B 50 5 (.slice a M.length cap) M.length (cellsI M) → B ≤ w.heap.size → M.length + 2 * l.cnt ≤ 1000 → Calls Try.prog 18 #[.slice a M.length cap, l.enc] w fun e w' => APost w w' B a (M ++ codeP l M.length) e)) (IHr : Hid (∀ (M : List IN) (a : Option Addr) (cap B : Nat) (w : World), w.ownsRow B 50 5 (.slice a M.length cap) M.length (cellsI M) → B ≤ w.heap.size → M.length + 2 * r.cnt ≤ 1000 → Calls Try.prog 18 #[.slice a M.length cap, r.enc] w fun e w' => APost w w' B a (M ++ codeP r M.length) e)) (M : List IN) (a : Option Addr) (cap B : Nat) (w : World) (h : w.ownsRow B 50 5 (.slice a M.length cap) M.length (cellsI M)) (hB : B ≤ w.heap.size) (hl : M.length + 2 * l.cnt + 2 * r.cnt + 2 ≤ 1000) :
    Calls Try.prog 18 #[.slice a M.length cap, .iface 69 (.agg #[.int .i64 op, l.enc, r.enc])] w fun e w' => APost w w' B a (M ++ codeP (.bin op l r) M.length) e := by
  have CJ : Hid (∀ W, Below w.heap.size w W → Calls Try.prog 29 #[.slice a M.length cap, .agg #[.int .i64 op, l.enc, r.enc]] W fun e w' => APost W w' B a (M ++ codeP (.bin op l r) M.length) e) := fun W hW => by
    by_cases hz : jmpI op = 0
    · exact c_aj_no op l r IHl IHr M a cap B W (own_below h hW) (Nat.le_trans hB hW.size) hl _ rfl hz
    · exact c_aj_yes op l r IHl IHr M a cap B W (own_below h hW) (Nat.le_trans hB hW.size) hl _ rfl hz
  obtain ⟨M2, hM2⟩ : ∃ x, M ++ codeP (.bin op l r) M.length = x := ⟨_, rfl⟩
  rw [hM2] at CJ ⊢
  obtain ⟨T, lv, hlv⟩ := enc_if l
  obtain ⟨T2, rv, hrv⟩ := enc_if r
  rw [hlv, hrv] at CJ ⊢
  clear hlv hrv h IHl IHr hM2
  obtain ⟨V, hV⟩ : ∃ V, w.alloc (.cells #[.int .i64 op, .iface T lv, .iface T2 rv] 69) = V := ⟨_, rfl⟩
  have bV : Below w.heap.size w V := by rw [← hV]; exact (Below.refl _ _).alloc (Nat.le_refl _) _
  have BV : Box V w.heap.size 69 #[.int .i64 op, .iface T lv, .iface T2 rv] := by rw [← hV]; exact Box.new _ _ _
  have HbV : Hid (Below w.heap.size w V) := bV
  have C := CJ.out V bV
  obtain ⟨q0, q1, q2⟩ := box3p BV
  clear bV BV
  have ta0 := ta_bin_bin op (.iface T lv) (.iface T2 rv)
  go_enter Try.func18, Try.ntmps18
  go_wp2_with fail
  refine C.mono ?_
  rintro e w1 ⟨a1, c1, rfl, A1⟩
  have HA1 : Hid (App w w1 B a a1 c1 M2) := A1.pre HbV.out
  clear A1 C
  go_wp2
  go_ret
  exact ⟨a1, c1, rfl, HA1.out⟩
theorem c_ac : ∀ (p : PT), (∀ (M : List IN) (a : Option Addr) (cap B : Nat) (w : World), w.ownsRow B 50 5 (.slice a M.length cap) M.length (cellsI M) → B ≤ w.heap.size → M.length + 2 * p.cnt ≤ 1000 → Calls Try.prog 18 #[.slice a M.length cap, p.enc] w fun e w' => APost w w' B a (M ++ codeP p M.length) e)
  | .con k n t, M, a, cap, B, w, h, hB, hl => c_ac_con k n t M a cap B w h hB (by simp [PT.cnt] at hl; omega)
  | .col c, M, a, cap, B, w, h, hB, hl => c_ac_col c M a cap B w h hB (by simp [PT.cnt] at hl; omega)
  | .una op p, M, a, cap, B, w, h, hB, hl => by
    have := c_ac_una op p (c_ac p) M a cap B w h hB (by simp [PT.cnt] at hl; omega)
    rw [show M ++ codeP (.una op p) M.length = M ++ codeP p M.length ++ [(⟨3, op, 0, 0, ⟨#[]⟩⟩ : IN)] by rw [codeP, List.append_assoc]]
    exact this
  | .bin op l r, M, a, cap, B, w, h, hB, hl => c_ac_bin op l r (c_ac l) (c_ac r) M a cap B w h hB (by simp [PT.cnt] at hl; omega)
theorem pF_cnt (L : List EN) : ∀ (fu k : Nat) (p : PT) (f : Nat), pF L fu k = some (p, f) → p.cnt + f = k
  | 0, _, _, _, h => by simp [pF] at h
  | _ + 1, 0, _, _, h => by simp [pF] at h
  | fu + 1, k + 1, p, f, h => by
    unfold pF at h
    dsimp only at h
    split at h
    · split at h
      · simp only [Option.some.injEq, Prod.mk.injEq] at h; obtain ⟨rfl, rfl⟩ := h; simp [PT.cnt]; omega
      · cases h
    · split at h
      · split at h
        · simp only [Option.some.injEq, Prod.mk.injEq] at h; obtain ⟨rfl, rfl⟩ := h; simp [PT.cnt]; omega
        · cases h
      · split at h
        · split at h
          · cases e : pF L fu k with
            | none => rw [e] at h; cases h
            | some q => obtain ⟨q, g⟩ := q; rw [e] at h; simp only [Option.some.injEq, Prod.mk.injEq] at h; obtain ⟨rfl, rfl⟩ := h; have := pF_cnt L fu k q g e; simp [PT.cnt]; omega
          · cases h
        · split at h
          · cases e : pF L fu k with
            | none => rw [e] at h; cases h
            | some q =>
              obtain ⟨q, g⟩ := q
              rw [e] at h
              dsimp only at h
              split at h
              · cases e2 : pF L fu g with
                | none => rw [e2] at h; cases h
                | some q2 => obtain ⟨q2, g2⟩ := q2; rw [e2] at h; simp only [Option.some.injEq, Prod.mk.injEq] at h; obtain ⟨rfl, rfl⟩ := h; have := pF_cnt L fu k q g e; have := pF_cnt L fu g q2 g2 e2; simp [PT.cnt]; omega
              · cases h
          · cases h
theorem top_parts {L : List EN} {n : Nat} {p : PT} (h : topX L n = some p) : n ≤ 40 ∧ pF L n n = some (p, 0) ∧ p.cnt = n := by
  unfold topX at h
  split at h
  · cases h
  · rename_i hn
    split at h
    · rename_i q e
      split at h
      · cases h
      · simp only [Option.some.injEq] at h
        subst h
        exact ⟨by omega, e, by have := pF_cnt L n n q 0 e; omega⟩
    · cases h
def ceL (L : List EN) (n : Nat) : List IN := match topX L n with | none => [] | some p => codeP p 0
def ceC (L : List EN) (n : Nat) : Int := if (topX L n).isSome then 0 else 1
def CPost (w w' : World) (R : List IN) (c : Int) (e : Ending) : Prop := (∃ a' cap', e = .returned (.tuple #[.slice a' R.length cap', .int .i64 c]) ∧ w'.ownsRow w.heap.size 50 5 (.slice a' R.length cap') R.length (cellsI R)) ∧ Below w.heap.size w w'
theorem App.below {w w' : World} {B : Nat} {a a' : Option Addr} {cap' : Nat} {M : List IN} (h : App w w' B a a' cap' M) (ha : ∀ g, ob a = some g → w.heap.size ≤ g) : Below w.heap.size w w' := ⟨h.gr.os, h.gr.tape, h.gr.output, h.gr.size, fun j hj => h.gr.block j hj (fun e => by have := ha j e.symm; omega)⟩
set_option maxRecDepth 100000 in
set_option maxHeartbeats 4000000 in
theorem c_implCE (L : List EN) (ea : Option Addr) (n ec : Nat) (w : World) (hr : RdE w ea n L) (hn : n ≤ 1048576) (hs : ∀ v ∈ L, v.t.size ≤ maxLen) :
    Calls Try.prog 7 #[.agg #[.slice ea n ec]] w fun e w' => CPost w w' (ceL L n) (ceC L n) e := by
  obtain ⟨V, hV⟩ : ∃ V, w.alloc (.cells #[.slice ea n ec] 31) = V := ⟨_, rfl⟩
  have bV : Below w.heap.size w V := by rw [← hV]; exact (Below.refl _ _).alloc (Nat.le_refl _) _
  have BV : Box V w.heap.size 31 #[.slice ea n ec] := by rw [← hV]; exact Box.new _ _ _
  have HbV : Hid (Below w.heap.size w V) := bV
  have C1 := c_partOf L ea n ec V (hr.below bV) hn hs
  have q0 : V.cell? ⟨w.heap.size, 0, none⟩ = some (.slice ea n ec) := BV.cell 0
  clear hr hs bV BV
  cases hp : topX L n with
  | none =>
    have E : Hid (ceL L n = [] ∧ ceC L n = 1) := by unfold Hid ceL ceC; rw [hp]; exact ⟨rfl, rfl⟩
    rw [hp, show encT none = .nilIface from rfl] at C1
    clear hp
    go_enter Try.func7, Try.ntmps7
    go_wp2_with fail
    refine C1.mono ?_
    rintro e w1 ⟨rfl, hb⟩
    have B1 : Hid (Below w.heap.size w w1) := HbV.out.trans (hb.mono HbV.out.size)
    clear hb C1
    go_wp2
    go_ret2
    refine ⟨⟨none, 0, ?_, ?_⟩, B1.out⟩
    · rw [E.out.1, E.out.2]; rfl
    · rw [E.out.1]; exact World.ownsRow_nil _ _ _ _
  | some p =>
    have E : Hid (ceL L n = codeP p 0 ∧ ceC L n = 0) := by unfold Hid ceL ceC; rw [hp]; exact ⟨rfl, rfl⟩
    obtain ⟨hn40, _, hcnt⟩ := top_parts hp
    rw [hp] at C1
    have CA : Hid (∀ W, w.heap.size ≤ W.heap.size → Calls Try.prog 18 #[.slice none 0 0, p.enc] W fun e w' => APost W w' W.heap.size none (codeP p 0) e) := fun W hW => by
      have := c_ac p [] none 0 W.heap.size W (World.ownsRow_nil _ _ _ _) (Nat.le_refl _) (by simp; omega)
      simpa using this
    obtain ⟨T, pv, hpv⟩ := enc_if p
    rw [show encT (some p) = p.enc from rfl, hpv] at C1
    rw [hpv] at CA
    clear hp hpv hcnt hn40
    go_enter Try.func7, Try.ntmps7
    go_wp2_with fail
    refine C1.mono ?_
    rintro e w1 ⟨rfl, hb⟩
    have B1 : Hid (Below w.heap.size w w1) := HbV.out.trans (hb.mono HbV.out.size)
    clear hb C1
    have C2 := CA.out w1 B1.out.size
    go_wp2_with fail
    refine C2.mono ?_
    rintro e w2 ⟨a2, c2, rfl, A2⟩
    have B2 : Hid (Below w.heap.size w w2) := B1.out.trans ((A2.below (fun g e => by cases e)).mono B1.out.size)
    have O2 : Hid (w2.ownsRow w.heap.size 50 5 (.slice a2 (codeP p 0).length c2) (codeP p 0).length (cellsI (codeP p 0))) := A2.own.down B1.out.size
    clear A2 C2
    go_wp2
    go_ret2
    refine ⟨⟨a2, c2, ?_, ?_⟩, B2.out⟩
    · rw [E.out.1, E.out.2]; rfl
    · rw [E.out.1]; exact O2.out

end Go.Proofs.Ytepeaabacfjheaa
