/-
  Rows that are read: the specification.
-/
import Derived.Test.YtkfkhfagehcmiaaRwi
import Derived.Test.YtkfkhfagehcmiaaKk
import Derived.Deep.QuietTactic
import Derived.BigQuiet
import Derived.Deep.RegionHeld3
namespace Go.Proofs.Ytkfkhfagehcmiaa
open Go Go.RowKit
attribute [local go_sem ↓] Go.wp_at_zero Go.wp_at_succ

theorem retX {fn : Func} {R : Ending → World → Prop} {w' : World} {g : Nat} {a : Act} {t i : Int} {u v : VV} {x : Value} (hres : fn.results = #[.tmp 2, .cell 3 59, .tmp 4]) (h2 : a.tmps.getD 2 undef = .int .i64 t) (h3 : a.tmps.getD 3 undef = .pointer (some ⟨g, 0, none⟩)) (h4 : a.tmps.getD 4 undef = x) (hd : a.defers = []) (hb : Box w' g 59 #[.int .i64 i, .int .i64 u.1, .int .i64 u.2.1, .string u.2.2, .int .i64 v.1, .int .i64 v.2.1, .string v.2.2]) (hR : R (.returned (.tuple #[.int .i64 t, .agg #[.int .i64 i, .int .i64 u.1, .int .i64 u.2.1, .string u.2.2, .int .i64 v.1, .int .i64 v.2.1, .string v.2.2], x])) w') :
    bodyPost Try.prog fn R .ret a w' := by
  obtain ⟨b0, b1, b2, b3, b4, b5, b6⟩ := box7 hb
  refine bodyPost_ret (v := .tuple #[.int .i64 t, .agg #[.int .i64 i, .int .i64 u.1, .int .i64 u.2.1, .string u.2.2, .int .i64 v.1, .int .i64 v.2.1, .string v.2.2], x]) ?_ hd hR
  have h2' : a.tmps[2]?.getD undef = .int .i64 t := by simpa using h2
  have h3' : a.tmps[3]?.getD undef = .pointer (some ⟨g, 0, none⟩) := by simpa using h3
  have h4' : a.tmps[4]?.getD undef = x := by simpa using h4
  have hl : (loadVar 59 ⟨g, 0, none⟩).run Try.prog w' = .ok (.agg #[.int .i64 i, .int .i64 u.1, .int .i64 u.2.1, .string u.2.2, .int .i64 v.1, .int .i64 v.2.1, .string v.2.2]) w' := by simp [go_sem, b0, b1, b2, b3, b4, b5, b6]
  simp only [results, hres]
  simp [h2', h3', h4', asAddr, hl]
def AnsL (w : World) (zs : List Int) (e : Ending) (w' : World) : Prop :=
  (∃ (t i : Int) (u v : VV) (k : Bool), e = .returned (.tuple #[.int .i64 t, .agg #[.int .i64 i, .int .i64 u.1, .int .i64 u.2.1, .string u.2.2, .int .i64 v.1, .int .i64 v.2.1, .string v.2.2], .bool k]) ∧ ((k = true ∧ (rk zs).bind rrO = some (t, i, u, v)) ∨ (k = false ∧ (rk zs).bind rrO = none))) ∧ Below w.heap.size w w'
theorem ansL_no {w w' : World} {zs : List Int} {t i : Int} {u v : VV} (h : (rk zs).bind rrO = none) (hb : Below w.heap.size w w') : AnsL w zs (.returned (.tuple #[.int .i64 t, .agg #[.int .i64 i, .int .i64 u.1, .int .i64 u.2.1, .string u.2.2, .int .i64 v.1, .int .i64 v.2.1, .string v.2.2], .bool false])) w' := ⟨⟨t, i, u, v, false, rfl, .inr ⟨rfl, h⟩⟩, hb⟩
theorem ansL_yes {w w' : World} {zs : List Int} {t i : Int} {u v : VV} (h : (rk zs).bind rrO = some (t, i, u, v)) (hb : Below w.heap.size w w') : AnsL w zs (.returned (.tuple #[.int .i64 t, .agg #[.int .i64 i, .int .i64 u.1, .int .i64 u.2.1, .string u.2.2, .int .i64 v.1, .int .i64 v.2.1, .string v.2.2], .bool true])) w' := ⟨⟨t, i, u, v, true, rfl, .inl ⟨rfl, h⟩⟩, hb⟩
theorem bind_none {zs : List Int} (h : rk zs = none) : (rk zs).bind rrO = none := by rw [h]; rfl
theorem bind_some {zs : List Int} {l : List VV} {o : Option (Int × Int × VV × VV)} (h : rk zs = some l) (h2 : rrO l = o) : (rk zs).bind rrO = o := by rw [h]; exact h2
set_option maxRecDepth 100000 in
set_option maxHeartbeats 4000000 in
theorem c_lRead (zs : List Int) (w : World) (hz : ∀ z ∈ zs, 0 ≤ z ∧ z < 256) (hn : zs.length ≤ 65536) :
    Calls Try.prog 66 #[.string (strOfNums zs)] w (AnsL w zs) := by
  obtain ⟨V, hV⟩ : ∃ V, w.alloc (.cells #[.int .i64 0, .int .i64 0, .int .i64 0, .string ⟨#[]⟩, .int .i64 0, .int .i64 0, .string ⟨#[]⟩] 59) = V := ⟨_, rfl⟩
  have BV : Hid (Below w.heap.size w V) := by unfold Hid; rw [← hV]; exact (Below.refl _ _).alloc (Nat.le_refl _) _
  have XV : Hid (Box V w.heap.size 59 #[.int .i64 0, .int .i64 0, .int .i64 0, .string ⟨#[]⟩, .int .i64 0, .int .i64 0, .string ⟨#[]⟩]) := by unfold Hid; rw [← hV]; exact Box.new _ _ _
  have lV : w.heap.size < V.heap.size := XV.out.lt
  obtain ⟨y, hy⟩ : ∃ y, y = strOfNums zs := ⟨_, rfl⟩
  have C : Calls Try.prog 60 #[.string y] V (AnsJ V zs) := by rw [hy]; exact c_lRK zs V hz hn
  rw [← hy]
  clear hz hn hy
  unfold AnsJ at C
  cases hk : rk zs with
  | none =>
    rw [hk] at C
    have HK : Hid (rk zs = none) := hk
    have HC : Hid (Calls Try.prog 60 #[.string y] V fun e w' => ∃ v, e = .returned (.tuple #[v, .bool false]) ∧ w'.ownsRow V.heap.size 25 3 v 0 (cellsV []) ∧ Below V.heap.size V w') := C
    clear C hk
    go_enter Try.func66, Try.ntmps66
    go_wp2_with fail
    refine HC.out.mono ?_
    rintro e w1 ⟨vv1, rfl, ho, hb⟩
    have B1 : Hid (Below w.heap.size w w1) := BV.out.trans (hb.mono BV.out.size)
    have X1 : Hid (Box w1 w.heap.size 59 #[.int .i64 0, .int .i64 0, .int .i64 0, .string ⟨#[]⟩, .int .i64 0, .int .i64 0, .string ⟨#[]⟩]) := XV.out.belowS hb
    clear ho hb HC hV
    have E : Hid ((rk zs).bind rrO = none) := bind_none HK.out
    obtain ⟨y0, y1, y2, y3, y4, y5, y6⟩ := box7 X1.out
    obtain ⟨s0, s1, s2, s3, s4, s5, s6⟩ := thaw7 X1.out
    obtain ⟨N, hN⟩ : ∃ Q, put7 w1 w.heap.size (.int .i64 0) (.int .i64 0) (.int .i64 0) (.string ⟨#[]⟩) (.int .i64 0) (.int .i64 0) (.string ⟨#[]⟩) = Q := ⟨_, rfl⟩
    have XN : Hid (Box N w.heap.size 59 #[.int .i64 0, .int .i64 0, .int .i64 0, .string ⟨#[]⟩, .int .i64 0, .int .i64 0, .string ⟨#[]⟩]) := by unfold Hid; rw [← hN]; exact put7_box X1.out _ _ _ _ _ _ _
    have BN : Hid (Below w.heap.size w N) := by unfold Hid; rw [← hN]; exact put7_below B1.out (Nat.le_refl _) _ _ _ _ _ _ _
    unfold put7 at hN
    go_wp2
    exact retX (i := 0) (u := dV) (v := dV) Try.results66 rfl rfl rfl rfl XN.out (ansL_no E.out BN.out)
  | some l =>
    rw [hk] at C
    have HK : Hid (rk zs = some l) := hk
    clear hk
    by_cases h4 : l.length = 4
    · obtain ⟨a0, b0, u, v, rfl⟩ := list4 h4
      clear h4
      have HC : Hid (Calls Try.prog 60 #[.string y] V fun e w' => ∃ v1, e = .returned (.tuple #[v1, .bool true]) ∧ w'.ownsRow V.heap.size 25 3 v1 4 (cellsV [a0, b0, u, v]) ∧ Below V.heap.size V w') := C
      clear C
      go_enter Try.func66, Try.ntmps66
      go_wp2_with fail
      refine HC.out.mono ?_
      rintro e w1 ⟨v1, rfl, ho, hb⟩
      obtain ⟨av, cv, rfl⟩ := own_slice2 ho
      have B1 : Hid (Below w.heap.size w w1) := BV.out.trans (hb.mono BV.out.size)
      have X1 : Hid (Box w1 w.heap.size 59 #[.int .i64 0, .int .i64 0, .int .i64 0, .string ⟨#[]⟩, .int .i64 0, .int .i64 0, .string ⟨#[]⟩]) := XV.out.belowS hb
      obtain ⟨g, rfl, hgb, hglt, d0, d1, d2, d3, d4, d5, d6, d7, d8, d9, d10, d11⟩ := own_four ho
      clear ho hb HC hV
      by_cases k0 : a0.1 = 1
      · have n0 : (a0.1 != 1) = false := by simp [k0]
        by_cases k1 : b0.1 = 1
        · have n1 : (b0.1 != 1) = false := by simp [k1]
          have K0 : Hid (a0.1 = 1 ∧ b0.1 = 1) := ⟨k0, k1⟩
          clear k0 k1
          have HS : Hid (u.2.2.size ≤ maxLen ∧ v.2.2.size ≤ maxLen) := by
            have h := rk_sz _ zs _ (Nat.le_refl _) HK.out
            have h1 := h u (by simp)
            have h2 := h v (by simp)
            unfold Hid maxLen
            omega
          obtain ⟨p1, g1⟩ : ∃ p, inB a0.2.1 1 3 = p := ⟨_, rfl⟩
          have C1 : Hid (∀ W : World, Calls Try.prog 44 #[.int .i64 a0.2.1, .int .i64 1, .int .i64 3] W fun e w' => e = .returned (.bool p1) ∧ w' = W) := fun W => by rw [← g1]; exact c_in _ 1 3 W
          have G1 : Hid (inB a0.2.1 1 3 = p1) := g1
          clear g1
          go_wp2_with fail
          refine (C1.out _).mono ?_
          rintro e w7 ⟨rfl, hw⟩
          rw [hw]
          clear hw C1
          cases p1
          · have HO : Hid (rrO [a0, b0, u, v] = none) := rrO_no (fun h => by rw [G1.out] at h; exact Bool.noConfusion h.2.2.1)
            have E : Hid ((rk zs).bind rrO = none) := bind_some HK.out HO.out
            obtain ⟨y0, y1, y2, y3, y4, y5, y6⟩ := box7 X1.out
            obtain ⟨s0, s1, s2, s3, s4, s5, s6⟩ := thaw7 X1.out
            obtain ⟨N, hN⟩ : ∃ Q, put7 w1 w.heap.size (.int .i64 0) (.int .i64 0) (.int .i64 0) (.string ⟨#[]⟩) (.int .i64 0) (.int .i64 0) (.string ⟨#[]⟩) = Q := ⟨_, rfl⟩
            have XN : Hid (Box N w.heap.size 59 #[.int .i64 0, .int .i64 0, .int .i64 0, .string ⟨#[]⟩, .int .i64 0, .int .i64 0, .string ⟨#[]⟩]) := by unfold Hid; rw [← hN]; exact put7_box X1.out _ _ _ _ _ _ _
            have BN : Hid (Below w.heap.size w N) := by unfold Hid; rw [← hN]; exact put7_below B1.out (Nat.le_refl _) _ _ _ _ _ _ _
            unfold put7 at hN
            go_wp2
            exact retX (i := 0) (u := dV) (v := dV) Try.results66 rfl rfl rfl rfl XN.out (ansL_no E.out BN.out)
          go_wp2_with fail
          go_region
          obtain ⟨q6, hq6⟩ : ∃ Q, w1.alloc (.cells #[.int .i64 b0.2.1, .int .i64 u.1, .int .i64 u.2.1, .string u.2.2, .int .i64 v.1, .int .i64 v.2.1, .string v.2.2] 59) = Q := ⟨_, rfl⟩
          rw [hq6]
          have bq : Below w1.heap.size w1 q6 := by rw [← hq6]; exact (Below.refl _ _).alloc (Nat.le_refl _) _
          have X6q : Box q6 w.heap.size 59 #[.int .i64 0, .int .i64 0, .int .i64 0, .string ⟨#[]⟩, .int .i64 0, .int .i64 0, .string ⟨#[]⟩] := X1.out.belowS bq
          have R6q : Box q6 w1.heap.size 59 #[.int .i64 b0.2.1, .int .i64 u.1, .int .i64 u.2.1, .string u.2.2, .int .i64 v.1, .int .i64 v.2.1, .string v.2.2] := by rw [← hq6]; exact Box.new w1 #[.int .i64 b0.2.1, .int .i64 u.1, .int .i64 u.2.1, .string u.2.2, .int .i64 v.1, .int .i64 v.2.1, .string v.2.2] 59
          have B6q : Below w.heap.size w q6 := B1.out.trans (bq.mono B1.out.size)
          obtain ⟨w6, hw6⟩ : ∃ Q, q6.drew = Q := ⟨_, rfl⟩
          have X6 : Hid (Box w6 w.heap.size 59 #[.int .i64 0, .int .i64 0, .int .i64 0, .string ⟨#[]⟩, .int .i64 0, .int .i64 0, .string ⟨#[]⟩]) := by unfold Hid; rw [← hw6]; exact X6q
          have R6 : Hid (Box w6 w1.heap.size 59 #[.int .i64 b0.2.1, .int .i64 u.1, .int .i64 u.2.1, .string u.2.2, .int .i64 v.1, .int .i64 v.2.1, .string v.2.2]) := by unfold Hid; rw [← hw6]; exact R6q
          have B6 : Hid (Below w.heap.size w w6) := by unfold Hid; rw [← hw6]; exact B6q.drew
          have D6 : w6.cell? ⟨g, 1, none⟩ = some (.int .i64 a0.2.1) := by rw [← hw6]; exact (bq.cell (p := ⟨g, 1, none⟩) hglt).trans d1
          have D0 : w6.cell? ⟨g, 0, none⟩ = some (.int .i64 a0.1) := by rw [← hw6]; exact (bq.cell (p := ⟨g, 0, none⟩) hglt).trans d0
          have D2 : w6.cell? ⟨g, 2, none⟩ = some (.string a0.2.2) := by rw [← hw6]; exact (bq.cell (p := ⟨g, 2, none⟩) hglt).trans d2
          have gl : g < w6.heap.size := by rw [← hw6]; exact Nat.lt_of_lt_of_le hglt bq.size
          rw [hw6]
          have l1 : w.heap.size < w1.heap.size := X1.out.lt
          have l6 : w1.heap.size < w6.heap.size := R6.out.lt
          clear hw6 hq6 X6q R6q B6q bq X1 B1 d0 d1 d2 d3 d4 d5 d6 d7 d8 d9 d10 d11
          obtain ⟨r0, r1, r2, r3, r4, r5, r6⟩ := box7 R6.out
          obtain ⟨y0, y1, y2, y3, y4, y5, y6⟩ := box7 X6.out
          obtain ⟨p2, g2⟩ : ∃ p, rowB b0.2.1 u v = p := ⟨_, rfl⟩
          have C2 : Hid (∀ W : World, Calls Try.prog 62 #[.agg #[.int .i64 b0.2.1, .int .i64 u.1, .int .i64 u.2.1, .string u.2.2, .int .i64 v.1, .int .i64 v.2.1, .string v.2.2]] W fun e w' => e = .returned (.bool p2) ∧ Below W.heap.size W w') := fun W => by rw [← g2]; exact c_lRow _ u v W HS.out.1 HS.out.2
          have G2 : Hid (rowB b0.2.1 u v = p2) := g2
          clear g2
          go_wp2_with fail
          go_region_with (go_at_call 62
                          refine (C2.out _).mono ?_
                          rintro e w8 ⟨rfl, hb⟩
                          have X8 : Box w8 w.heap.size 59 #[.int .i64 0, .int .i64 0, .int .i64 0, .string ⟨#[]⟩, .int .i64 0, .int .i64 0, .string ⟨#[]⟩] := by first | exact X6.out.belowS hb | exact (X6.out.drewN 1).belowS hb
                          have R8 : Box w8 w1.heap.size 59 #[.int .i64 b0.2.1, .int .i64 u.1, .int .i64 u.2.1, .string u.2.2, .int .i64 v.1, .int .i64 v.2.1, .string v.2.2] := by first | exact R6.out.belowS hb | exact (R6.out.drewN 1).belowS hb
                          have B8 : Below w.heap.size w w8 := by first | exact B6.out.trans (hb.mono B6.out.size) | exact B6.out.drew.trans (hb.mono B6.out.size)
                          have e0 := far6 hb D0
                          have e1 := far6 hb D6
                          have e2 := far6 hb D2
                          have gl8 : g < w8.heap.size := Nat.lt_of_lt_of_le gl hb.size
                          obtain ⟨x0, x1, x2, x3, x4, x5, x6⟩ := box7 X8
                          obtain ⟨s0, s1, s2, s3, s4, s5, s6⟩ := thaw7 X8
                          obtain ⟨v0, v1, v2, v3, v4, v5, v6⟩ := box7 R8)
          all_goals
            obtain ⟨N, hN⟩ : ∃ Q, put7 w8 w.heap.size (.int .i64 b0.2.1) (.int .i64 u.1) (.int .i64 u.2.1) (.string u.2.2) (.int .i64 v.1) (.int .i64 v.2.1) (.string v.2.2) = Q := ⟨_, rfl⟩
            have XNq : Box N w.heap.size 59 #[.int .i64 b0.2.1, .int .i64 u.1, .int .i64 u.2.1, .string u.2.2, .int .i64 v.1, .int .i64 v.2.1, .string v.2.2] := by rw [← hN]; exact put7_box X8 _ _ _ _ _ _ _
            have BNq : Below w.heap.size w N := by rw [← hN]; exact put7_below B8 (Nat.le_refl _) _ _ _ _ _ _ _
            unfold put7 at hN
            try rw [hN]
            have XM : Hid (Box N w.heap.size 59 #[.int .i64 b0.2.1, .int .i64 u.1, .int .i64 u.2.1, .string u.2.2, .int .i64 v.1, .int .i64 v.2.1, .string v.2.2]) := XNq
            have XN : Hid (Box N.drew w.heap.size 59 #[.int .i64 b0.2.1, .int .i64 u.1, .int .i64 u.2.1, .string u.2.2, .int .i64 v.1, .int .i64 v.2.1, .string v.2.2]) := XNq
            have BM : Hid (Below w.heap.size w N) := BNq
            have BN : Hid (Below w.heap.size w N.drew) := BNq.drew
            clear XNq BNq
            have FIN : Hid (∀ W, Below w.heap.size w W → AnsL w zs (.returned (.tuple #[.int .i64 a0.2.1, .agg #[.int .i64 b0.2.1, .int .i64 u.1, .int .i64 u.2.1, .string u.2.2, .int .i64 v.1, .int .i64 v.2.1, .string v.2.2], .bool p2])) W) := fun W hW => by
              have g2 := G2.out
              cases p2
              · exact ansL_no (bind_some HK.out (rrO_no (fun h => by rw [g2] at h; exact Bool.noConfusion h.2.2.2))) hW
              · exact ansL_yes (bind_some HK.out (rrO_yes ⟨K0.out.1, K0.out.2, G1.out, g2⟩)) hW
            go_wp2
            first | exact retX Try.results66 rfl rfl rfl rfl XN.out (FIN.out _ BN.out) | exact retX Try.results66 rfl rfl rfl rfl XM.out (FIN.out _ BM.out)
        · have n1 : (b0.1 != 1) = true := by simpa using k1
          have HO : Hid (rrO [a0, b0, u, v] = none) := rrO_no (fun h => k1 h.2.1)
          clear k0 k1
          have E : Hid ((rk zs).bind rrO = none) := bind_some HK.out HO.out
          obtain ⟨y0, y1, y2, y3, y4, y5, y6⟩ := box7 X1.out
          obtain ⟨s0, s1, s2, s3, s4, s5, s6⟩ := thaw7 X1.out
          obtain ⟨N, hN⟩ : ∃ Q, put7 w1 w.heap.size (.int .i64 0) (.int .i64 0) (.int .i64 0) (.string ⟨#[]⟩) (.int .i64 0) (.int .i64 0) (.string ⟨#[]⟩) = Q := ⟨_, rfl⟩
          have XN : Hid (Box N w.heap.size 59 #[.int .i64 0, .int .i64 0, .int .i64 0, .string ⟨#[]⟩, .int .i64 0, .int .i64 0, .string ⟨#[]⟩]) := by unfold Hid; rw [← hN]; exact put7_box X1.out _ _ _ _ _ _ _
          have BN : Hid (Below w.heap.size w N) := by unfold Hid; rw [← hN]; exact put7_below B1.out (Nat.le_refl _) _ _ _ _ _ _ _
          unfold put7 at hN
          go_wp2
          exact retX (i := 0) (u := dV) (v := dV) Try.results66 rfl rfl rfl rfl XN.out (ansL_no E.out BN.out)
      · have n0 : (a0.1 != 1) = true := by simpa using k0
        have HO : Hid (rrO [a0, b0, u, v] = none) := rrO_no (fun h => k0 h.1)
        clear k0
        have E : Hid ((rk zs).bind rrO = none) := bind_some HK.out HO.out
        obtain ⟨y0, y1, y2, y3, y4, y5, y6⟩ := box7 X1.out
        obtain ⟨s0, s1, s2, s3, s4, s5, s6⟩ := thaw7 X1.out
        obtain ⟨N, hN⟩ : ∃ Q, put7 w1 w.heap.size (.int .i64 0) (.int .i64 0) (.int .i64 0) (.string ⟨#[]⟩) (.int .i64 0) (.int .i64 0) (.string ⟨#[]⟩) = Q := ⟨_, rfl⟩
        have XN : Hid (Box N w.heap.size 59 #[.int .i64 0, .int .i64 0, .int .i64 0, .string ⟨#[]⟩, .int .i64 0, .int .i64 0, .string ⟨#[]⟩]) := by unfold Hid; rw [← hN]; exact put7_box X1.out _ _ _ _ _ _ _
        have BN : Hid (Below w.heap.size w N) := by unfold Hid; rw [← hN]; exact put7_below B1.out (Nat.le_refl _) _ _ _ _ _ _ _
        unfold put7 at hN
        go_wp2
        exact retX (i := 0) (u := dV) (v := dV) Try.results66 rfl rfl rfl rfl XN.out (ansL_no E.out BN.out)
    · have HO : Hid (rrO l = none) := rrO_len h4
      have n4 : ((l.length : Int) != 4) = true := by simp; omega
      have HC : Hid (Calls Try.prog 60 #[.string y] V fun e w' => ∃ v1, e = .returned (.tuple #[v1, .bool true]) ∧ w'.ownsRow V.heap.size 25 3 v1 l.length (cellsV l) ∧ Below V.heap.size V w') := C
      clear h4 C
      go_enter Try.func66, Try.ntmps66
      go_wp2_with fail
      refine HC.out.mono ?_
      rintro e w1 ⟨v1, rfl, ho, hb⟩
      obtain ⟨av, cv, rfl⟩ := own_slice2 ho
      have B1 : Hid (Below w.heap.size w w1) := BV.out.trans (hb.mono BV.out.size)
      have X1 : Hid (Box w1 w.heap.size 59 #[.int .i64 0, .int .i64 0, .int .i64 0, .string ⟨#[]⟩, .int .i64 0, .int .i64 0, .string ⟨#[]⟩]) := XV.out.belowS hb
      clear ho hb HC hV
      have E : Hid ((rk zs).bind rrO = none) := bind_some HK.out HO.out
      obtain ⟨y0, y1, y2, y3, y4, y5, y6⟩ := box7 X1.out
      obtain ⟨s0, s1, s2, s3, s4, s5, s6⟩ := thaw7 X1.out
      obtain ⟨N, hN⟩ : ∃ Q, put7 w1 w.heap.size (.int .i64 0) (.int .i64 0) (.int .i64 0) (.string ⟨#[]⟩) (.int .i64 0) (.int .i64 0) (.string ⟨#[]⟩) = Q := ⟨_, rfl⟩
      have XN : Hid (Box N w.heap.size 59 #[.int .i64 0, .int .i64 0, .int .i64 0, .string ⟨#[]⟩, .int .i64 0, .int .i64 0, .string ⟨#[]⟩]) := by unfold Hid; rw [← hN]; exact put7_box X1.out _ _ _ _ _ _ _
      have BN : Hid (Below w.heap.size w N) := by unfold Hid; rw [← hN]; exact put7_below B1.out (Nat.le_refl _) _ _ _ _ _ _ _
      unfold put7 at hN
      go_wp2
      exact retX (i := 0) (u := dV) (v := dV) Try.results66 rfl rfl rfl rfl XN.out (ansL_no E.out BN.out)

end Go.Proofs.Ytkfkhfagehcmiaa
