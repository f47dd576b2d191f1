/-
  Rows that are read: the walk of the program.
-/
import Derived.Test.YtkfkhfagehcmiaaRwh
import Derived.Deep.QuietTactic
import Derived.BigQuiet
import Derived.Deep.RegionHeld3
namespace Go.Proofs.Ytkfkhfagehcmiaa
open Go Go.RowKit
attribute [local go_sem ↓] Go.wp_at_zero Go.wp_at_succ

theorem own_four {w : World} {base e : Nat} {av : Option Addr} {cv : Nat} {a0 b0 u v : VV} (h : w.ownsRow base e 3 (.slice av 4 cv) 4 (cellsV [a0, b0, u, v])) : ∃ g, av = some ⟨g, 0, none⟩ ∧ base ≤ g ∧ g < w.heap.size ∧ w.cell? ⟨g, 0, none⟩ = some (.int .i64 a0.1) ∧ w.cell? ⟨g, 1, none⟩ = some (.int .i64 a0.2.1) ∧ w.cell? ⟨g, 2, none⟩ = some (.string a0.2.2) ∧ w.cell? ⟨g, 3, none⟩ = some (.int .i64 b0.1) ∧ w.cell? ⟨g, 4, none⟩ = some (.int .i64 b0.2.1) ∧ w.cell? ⟨g, 5, none⟩ = some (.string b0.2.2) ∧ w.cell? ⟨g, 6, none⟩ = some (.int .i64 u.1) ∧ w.cell? ⟨g, 7, none⟩ = some (.int .i64 u.2.1) ∧ w.cell? ⟨g, 8, none⟩ = some (.string u.2.2) ∧ w.cell? ⟨g, 9, none⟩ = some (.int .i64 v.1) ∧ w.cell? ⟨g, 10, none⟩ = some (.int .i64 v.2.1) ∧ w.cell? ⟨g, 11, none⟩ = some (.string v.2.2) := by
  have h' := h
  rcases h.2 with ⟨_, h0⟩ | ⟨g, cap', cur, hv, hb, hg, hnc, hcm, hcs, htake⟩
  · cases h0
  · simp only [Value.slice.injEq] at hv
    obtain ⟨rfl, _, rfl⟩ := hv
    have hlt : g < w.heap.size := by
      rcases Nat.lt_or_ge g w.heap.size with h1 | h1
      · exact h1
      · rw [Array.getElem?_eq_none h1] at hg; cases hg
    refine ⟨g, rfl, hb, hlt, ?_⟩
    refine ⟨h'.cellAt 0 (by omega), h'.cellAt 1 (by omega), h'.cellAt 2 (by omega), h'.cellAt 3 (by omega), h'.cellAt 4 (by omega), h'.cellAt 5 (by omega), h'.cellAt 6 (by omega), h'.cellAt 7 (by omega), h'.cellAt 8 (by omega), h'.cellAt 9 (by omega), h'.cellAt 10 (by omega), h'.cellAt 11 (by omega)⟩
theorem pv_sz {z : Int} {r : List Int} {v : VV} {s : Nat} (h : pv z r = some (v, s)) : v.2.2.size ≤ 10 := by
  have key : ∀ (x : VV) (k : Nat), chk x k = some (v, s) → x = v ∧ valB v.1 v.2.1 v.2.2 = true := fun x k hc => by
    unfold chk at hc
    split at hc
    · rename_i hv
      have := Option.some.inj hc
      have e : x = v := congrArg Prod.fst this
      exact ⟨e, by rw [← e]; exact hv⟩
    · cases hc
  unfold pv at h
  split at h
  · split at h
    · cases h
    · obtain ⟨e, _⟩ := key _ _ h
      rw [← e]; exact Nat.zero_le _
  · split at h
    · split at h
      · cases h
      · obtain ⟨e, hv⟩ := key _ _ h
        rw [← e, val2] at hv
        rw [← e]
        unfold wordB at hv
        simp only [Bool.and_eq_true, decide_eq_true_eq] at hv
        exact hv.2.1
    · obtain ⟨e, _⟩ := key _ _ h
      rw [← e]; exact Nat.zero_le _
theorem rk_sz : ∀ (m : Nat) (zs : List Int) (l : List VV), zs.length ≤ m → rk zs = some l → ∀ v ∈ l, v.2.2.size ≤ 10
  | m, [], l, _, h => by
    rw [rk_nil] at h
    obtain rfl := Option.some.inj h
    intro v hv
    cases hv
  | 0, z :: r, l, hm, _ => by simp at hm
  | m + 1, z :: r, l, hm, h => by
    cases hp : pv z r with
    | none => rw [rk_none hp] at h; cases h
    | some p =>
      obtain ⟨v0, s⟩ := p
      rw [rk_step hp] at h
      cases hr : rk (r.drop (s - 1)) with
      | none => rw [hr] at h; cases h
      | some l' =>
        rw [hr] at h
        obtain rfl := Option.some.inj h
        intro v hv
        rcases List.mem_cons.1 hv with rfl | hv
        · exact pv_sz hp
        · refine rk_sz m _ l' ?_ hr v hv
          simp at hm ⊢
          omega
set_option maxRecDepth 100000 in
set_option maxHeartbeats 4000000 in
theorem c_implRW (a : Option Addr) (n cap : Nat) (zs : List Int) (w : World) (hr : RdV w a n (zs.map (Value.int .u8))) (hz : ∀ z ∈ zs, 0 ≤ z ∧ z < 256) (hn : n ≤ 1048576) (hcap : n ≤ cap) (hcm : cap ≤ 9223372036854775807) :
    Calls Try.prog 42 #[.slice a n cap] w (AnsW w zs) := by
  have hl : zs.length = n := by simpa using hr.1
  obtain ⟨V, hV⟩ : ∃ V, w.alloc (.cells #[.int .i64 0, .int .i64 0, .int .i64 0, .string ⟨#[]⟩, .int .i64 0, .int .i64 0, .string ⟨#[]⟩] 59) = V := ⟨_, rfl⟩
  have BV : Hid (Below w.heap.size w V) := by unfold Hid; rw [← hV]; exact (Below.refl _ _).alloc (Nat.le_refl _) _
  have XV : Hid (Box V w.heap.size 59 #[.int .i64 0, .int .i64 0, .int .i64 0, .string ⟨#[]⟩, .int .i64 0, .int .i64 0, .string ⟨#[]⟩]) := by unfold Hid; rw [← hV]; exact Box.new _ _ _
  have lV : w.heap.size < V.heap.size := XV.out.lt
  by_cases h6 : 65536 < n
  · have HL : Hid (65536 < zs.length) := by unfold Hid; omega
    have c6 : (65536 : Int) < (n : Int) := by omega
    clear hr hz hl
    go_enter Try.func42, Try.ntmps42
    have E : Hid (rrAns zs = (2, 0, 0, dV, dV)) := rr2 HL.out
    obtain ⟨y0, y1, y2, y3, y4, y5, y6⟩ := box7 XV.out
    obtain ⟨s0, s1, s2, s3, s4, s5, s6⟩ := thaw7 XV.out
    obtain ⟨N, hN⟩ : ∃ Q, put7 V w.heap.size (.int .i64 0) (.int .i64 0) (.int .i64 0) (.string ⟨#[]⟩) (.int .i64 0) (.int .i64 0) (.string ⟨#[]⟩) = Q := ⟨_, rfl⟩
    have XN : Hid (Box N w.heap.size 59 #[.int .i64 0, .int .i64 0, .int .i64 0, .string ⟨#[]⟩, .int .i64 0, .int .i64 0, .string ⟨#[]⟩]) := by unfold Hid; rw [← hN]; exact put7_box XV.out _ _ _ _ _ _ _
    have BN : Hid (Below w.heap.size w N) := by unfold Hid; rw [← hN]; exact put7_below BV.out (Nat.le_refl _) _ _ _ _ _ _ _
    unfold put7 at hN
    go_wp2
    exact retW Try.results42 rfl rfl rfl rfl XN.out E.out BN.out
  have c6 : ¬ (65536 : Int) < (n : Int) := by omega
  have HL : Hid (¬ 65536 < zs.length) := by unfold Hid; omega
  have CQ : Hid (Calls Try.prog 35 #[.slice a n cap] V (AnsQ V zs)) := c_implQ a n cap zs V (hr.below BV.out) hz hn hcap hcm
  clear hr hz hl
  cases hk : rk zs with
  | none =>
    have HK : Hid (rk zs = none) := hk
    have EQ : Hid (errQ zs = 3 ∧ resQ zs = []) := ansQ3 HL.out hk
    clear hk
    go_enter Try.func42, Try.ntmps42
    go_wp2_with fail
    refine CQ.out.mono ?_
    unfold AnsQ
    rw [EQ.out.1, EQ.out.2]
    rintro e w1 ⟨av, cv, rfl, ho, hb⟩
    have B1 : Hid (Below w.heap.size w w1) := BV.out.trans (hb.mono BV.out.size)
    have X1 : Hid (Box w1 w.heap.size 59 #[.int .i64 0, .int .i64 0, .int .i64 0, .string ⟨#[]⟩, .int .i64 0, .int .i64 0, .string ⟨#[]⟩]) := XV.out.belowS hb
    clear ho hb CQ hV
    have E : Hid (rrAns zs = (3, 0, 0, dV, dV)) := rr3 HL.out HK.out
    obtain ⟨y0, y1, y2, y3, y4, y5, y6⟩ := box7 X1.out
    obtain ⟨s0, s1, s2, s3, s4, s5, s6⟩ := thaw7 X1.out
    obtain ⟨N, hN⟩ : ∃ Q, put7 w1 w.heap.size (.int .i64 0) (.int .i64 0) (.int .i64 0) (.string ⟨#[]⟩) (.int .i64 0) (.int .i64 0) (.string ⟨#[]⟩) = Q := ⟨_, rfl⟩
    have XN : Hid (Box N w.heap.size 59 #[.int .i64 0, .int .i64 0, .int .i64 0, .string ⟨#[]⟩, .int .i64 0, .int .i64 0, .string ⟨#[]⟩]) := by unfold Hid; rw [← hN]; exact put7_box X1.out _ _ _ _ _ _ _
    have BN : Hid (Below w.heap.size w N) := by unfold Hid; rw [← hN]; exact put7_below B1.out (Nat.le_refl _) _ _ _ _ _ _ _
    unfold put7 at hN
    go_wp2
    exact retW Try.results42 rfl rfl rfl rfl XN.out E.out BN.out
  | some l =>
    have HK : Hid (rk zs = some l) := hk
    clear hk
    by_cases hbig : 4096 < l.length
    · have EQ : Hid (errQ zs = 6 ∧ resQ zs = []) := ansQ6 HL.out HK.out hbig
      have HO : Hid (rrO l = none) := rrO_len (by omega)
      clear hbig
      go_enter Try.func42, Try.ntmps42
      go_wp2_with fail
      refine CQ.out.mono ?_
      unfold AnsQ
      rw [EQ.out.1, EQ.out.2]
      rintro e w1 ⟨av, cv, rfl, ho, hb⟩
      have B1 : Hid (Below w.heap.size w w1) := BV.out.trans (hb.mono BV.out.size)
      have X1 : Hid (Box w1 w.heap.size 59 #[.int .i64 0, .int .i64 0, .int .i64 0, .string ⟨#[]⟩, .int .i64 0, .int .i64 0, .string ⟨#[]⟩]) := XV.out.belowS hb
      clear ho hb CQ hV
      have E : Hid (rrAns zs = (3, 0, 0, dV, dV)) := rr3' HL.out HK.out HO.out
      obtain ⟨y0, y1, y2, y3, y4, y5, y6⟩ := box7 X1.out
      obtain ⟨s0, s1, s2, s3, s4, s5, s6⟩ := thaw7 X1.out
      obtain ⟨N, hN⟩ : ∃ Q, put7 w1 w.heap.size (.int .i64 0) (.int .i64 0) (.int .i64 0) (.string ⟨#[]⟩) (.int .i64 0) (.int .i64 0) (.string ⟨#[]⟩) = Q := ⟨_, rfl⟩
      have XN : Hid (Box N w.heap.size 59 #[.int .i64 0, .int .i64 0, .int .i64 0, .string ⟨#[]⟩, .int .i64 0, .int .i64 0, .string ⟨#[]⟩]) := by unfold Hid; rw [← hN]; exact put7_box X1.out _ _ _ _ _ _ _
      have BN : Hid (Below w.heap.size w N) := by unfold Hid; rw [← hN]; exact put7_below B1.out (Nat.le_refl _) _ _ _ _ _ _ _
      unfold put7 at hN
      go_wp2
      exact retW Try.results42 rfl rfl rfl rfl XN.out E.out BN.out
    have EQ : Hid (errQ zs = 0 ∧ resQ zs = l) := ansQ0 HL.out HK.out hbig
    clear hbig
    by_cases h4 : l.length = 4
    · obtain ⟨a0, b0, u, v, rfl⟩ := list4 h4
      clear h4
      have CR : Hid (Calls Try.prog 35 #[.slice a n cap] V fun e w' => ∃ av cv, e = .returned (.tuple #[.slice av 4 cv, .int .i64 0]) ∧ w'.ownsRow V.heap.size 25 3 (.slice av 4 cv) 4 (cellsV [a0, b0, u, v]) ∧ Below V.heap.size V w') := by
        have := CQ.out
        unfold AnsQ at this
        rw [EQ.out.1, EQ.out.2] at this
        exact this
      clear CQ EQ
      go_enter Try.func42, Try.ntmps42
      go_wp2_with fail
      refine CR.out.mono ?_
      rintro e w1 ⟨av, cv, rfl, ho, hb⟩
      have B1 : Hid (Below w.heap.size w w1) := BV.out.trans (hb.mono BV.out.size)
      have X1 : Hid (Box w1 w.heap.size 59 #[.int .i64 0, .int .i64 0, .int .i64 0, .string ⟨#[]⟩, .int .i64 0, .int .i64 0, .string ⟨#[]⟩]) := XV.out.belowS hb
      obtain ⟨g, rfl, hgb, hglt, d0, d1, d2, d3, d4, d5, d6, d7, d8, d9, d10, d11⟩ := own_four ho
      clear ho hb CR hV
      by_cases k0 : a0.1 = 1
      · have n0 : (a0.1 != 1) = false := by simp [k0]
        by_cases k1 : b0.1 = 1
        · have n1 : (b0.1 != 1) = false := by simp [k1]
          have K0 : Hid (a0.1 = 1 ∧ b0.1 = 1) := ⟨k0, k1⟩
          clear k0 k1
          go_wp2_with fail
          have HS : Hid (u.2.2.size ≤ maxLen ∧ v.2.2.size ≤ maxLen) := by
            have h := rk_sz _ zs _ (Nat.le_refl _) HK.out
            have h1 := h u (by simp)
            have h2 := h v (by simp)
            unfold Hid maxLen
            omega
          have hlt1 : g < w1.heap.size := hglt
          go_region
          obtain ⟨q6, hq6⟩ : ∃ Q, w1.alloc (.cells #[.int .i64 b0.2.1, .int .i64 u.1, .int .i64 u.2.1, .string u.2.2, .int .i64 v.1, .int .i64 v.2.1, .string v.2.2] 59) = Q := ⟨_, rfl⟩
          rw [hq6]
          have X6q : Box q6 w.heap.size 59 #[.int .i64 0, .int .i64 0, .int .i64 0, .string ⟨#[]⟩, .int .i64 0, .int .i64 0, .string ⟨#[]⟩] := by rw [← hq6]; exact X1.out.alloc _
          have R6q : Box q6 w1.heap.size 59 #[.int .i64 b0.2.1, .int .i64 u.1, .int .i64 u.2.1, .string u.2.2, .int .i64 v.1, .int .i64 v.2.1, .string v.2.2] := by rw [← hq6]; exact Box.new w1 #[.int .i64 b0.2.1, .int .i64 u.1, .int .i64 u.2.1, .string u.2.2, .int .i64 v.1, .int .i64 v.2.1, .string v.2.2] 59
          have B6q : Below w.heap.size w q6 := by rw [← hq6]; exact B1.out.alloc B1.out.size _
          obtain ⟨w6, hw6⟩ : ∃ Q, q6.drew = Q := ⟨_, rfl⟩
          have X6 : Hid (Box w6 w.heap.size 59 #[.int .i64 0, .int .i64 0, .int .i64 0, .string ⟨#[]⟩, .int .i64 0, .int .i64 0, .string ⟨#[]⟩]) := by unfold Hid; rw [← hw6]; exact X6q
          have R6 : Hid (Box w6 w1.heap.size 59 #[.int .i64 b0.2.1, .int .i64 u.1, .int .i64 u.2.1, .string u.2.2, .int .i64 v.1, .int .i64 v.2.1, .string v.2.2]) := by unfold Hid; rw [← hw6]; exact R6q
          have B6 : Hid (Below w.heap.size w w6) := by unfold Hid; rw [← hw6]; exact B6q.drew
          rw [hw6]
          have l1 : w.heap.size < w1.heap.size := X1.out.lt
          clear hw6 hq6 X6q R6q B6q X1 B1 d0 d1 d2 d3 d4 d5 d6 d7 d8 d9 d10 d11 hlt1 hglt hgb
          obtain ⟨r0, r1, r2, r3, r4, r5, r6⟩ := box7 R6.out
          obtain ⟨p1, g1⟩ : ∃ p, inB a0.2.1 1 3 = p := ⟨_, rfl⟩
          obtain ⟨p2, g2⟩ : ∃ p, rowB b0.2.1 u v = p := ⟨_, rfl⟩
          have C1 : Hid (∀ W : World, Calls Try.prog 65 #[.int .i64 a0.2.1] W fun e w' => e = .returned (.bool p1) ∧ w' = W) := fun W => by rw [← g1]; exact c_isTable _ W
          have C2 : Hid (∀ W : World, Calls Try.prog 64 #[.agg #[.int .i64 b0.2.1, .int .i64 u.1, .int .i64 u.2.1, .string u.2.2, .int .i64 v.1, .int .i64 v.2.1, .string v.2.2]] W fun e w' => e = .returned (.bool p2) ∧ Below W.heap.size W w') := fun W => by rw [← g2]; exact c_isRow _ u v W HS.out.1 HS.out.2
          have G1 : Hid (inB a0.2.1 1 3 = p1) := g1
          have G2 : Hid (rowB b0.2.1 u v = p2) := g2
          clear g1 g2
          go_wp2_with fail
          refine (C1.out _).mono ?_
          rintro e w7 ⟨rfl, hw⟩
          rw [hw]
          clear hw C1
          cases p1
          · have HO : Hid (rrO [a0, b0, u, v] = none) := rrO_no (fun h => by rw [G1.out] at h; exact Bool.noConfusion h.2.2.1)
            clear C2
            have E : Hid (rrAns zs = (3, 0, 0, dV, dV)) := rr3' HL.out HK.out HO.out
            obtain ⟨y0, y1, y2, y3, y4, y5, y6⟩ := box7 X6.out
            obtain ⟨s0, s1, s2, s3, s4, s5, s6⟩ := thaw7 X6.out
            obtain ⟨N, hN⟩ : ∃ Q, put7 w6 w.heap.size (.int .i64 0) (.int .i64 0) (.int .i64 0) (.string ⟨#[]⟩) (.int .i64 0) (.int .i64 0) (.string ⟨#[]⟩) = Q := ⟨_, rfl⟩
            have XN : Hid (Box N w.heap.size 59 #[.int .i64 0, .int .i64 0, .int .i64 0, .string ⟨#[]⟩, .int .i64 0, .int .i64 0, .string ⟨#[]⟩]) := by unfold Hid; rw [← hN]; exact put7_box X6.out _ _ _ _ _ _ _
            have BN : Hid (Below w.heap.size w N) := by unfold Hid; rw [← hN]; exact put7_below B6.out (Nat.le_refl _) _ _ _ _ _ _ _
            unfold put7 at hN
            go_wp2
            exact retW Try.results42 rfl rfl rfl rfl XN.out E.out BN.out
          go_wp2_with fail
          refine (C2.out _).mono ?_
          rintro e w8 ⟨rfl, hb⟩
          have X8 : Hid (Box w8 w.heap.size 59 #[.int .i64 0, .int .i64 0, .int .i64 0, .string ⟨#[]⟩, .int .i64 0, .int .i64 0, .string ⟨#[]⟩]) := X6.out.belowS hb
          have R8 : Hid (Box w8 w1.heap.size 59 #[.int .i64 b0.2.1, .int .i64 u.1, .int .i64 u.2.1, .string u.2.2, .int .i64 v.1, .int .i64 v.2.1, .string v.2.2]) := R6.out.belowS hb
          have B8 : Hid (Below w.heap.size w w8) := B6.out.trans (hb.mono B6.out.size)
          clear hb C2 X6 R6 B6 r0 r1 r2 r3 r4 r5 r6
          obtain ⟨r0, r1, r2, r3, r4, r5, r6⟩ := box7 R8.out
          cases p2
          · have HO : Hid (rrO [a0, b0, u, v] = none) := rrO_no (fun h => by rw [G2.out] at h; exact Bool.noConfusion h.2.2.2)
            have E : Hid (rrAns zs = (3, 0, 0, dV, dV)) := rr3' HL.out HK.out HO.out
            obtain ⟨y0, y1, y2, y3, y4, y5, y6⟩ := box7 X8.out
            obtain ⟨s0, s1, s2, s3, s4, s5, s6⟩ := thaw7 X8.out
            obtain ⟨N, hN⟩ : ∃ Q, put7 w8 w.heap.size (.int .i64 0) (.int .i64 0) (.int .i64 0) (.string ⟨#[]⟩) (.int .i64 0) (.int .i64 0) (.string ⟨#[]⟩) = Q := ⟨_, rfl⟩
            have XN : Hid (Box N w.heap.size 59 #[.int .i64 0, .int .i64 0, .int .i64 0, .string ⟨#[]⟩, .int .i64 0, .int .i64 0, .string ⟨#[]⟩]) := by unfold Hid; rw [← hN]; exact put7_box X8.out _ _ _ _ _ _ _
            have BN : Hid (Below w.heap.size w N) := by unfold Hid; rw [← hN]; exact put7_below B8.out (Nat.le_refl _) _ _ _ _ _ _ _
            unfold put7 at hN
            go_wp2
            exact retW Try.results42 rfl rfl rfl rfl XN.out E.out BN.out
          have E : Hid (rrAns zs = (0, a0.2.1, b0.2.1, u, v)) := rr0 HL.out HK.out (rrO_yes ⟨K0.out.1, K0.out.2, G1.out, G2.out⟩)
          obtain ⟨y0, y1, y2, y3, y4, y5, y6⟩ := box7 X8.out
          obtain ⟨s0, s1, s2, s3, s4, s5, s6⟩ := thaw7 X8.out
          go_wp2_with fail
          go_region
          obtain ⟨N, hN⟩ : ∃ Q, put7 w8 w.heap.size (.int .i64 b0.2.1) (.int .i64 u.1) (.int .i64 u.2.1) (.string u.2.2) (.int .i64 v.1) (.int .i64 v.2.1) (.string v.2.2) = Q := ⟨_, rfl⟩
          have XNq : Box N w.heap.size 59 #[.int .i64 b0.2.1, .int .i64 u.1, .int .i64 u.2.1, .string u.2.2, .int .i64 v.1, .int .i64 v.2.1, .string v.2.2] := by rw [← hN]; exact put7_box X8.out _ _ _ _ _ _ _
          have XN : Hid (Box N.drew w.heap.size 59 #[.int .i64 b0.2.1, .int .i64 u.1, .int .i64 u.2.1, .string u.2.2, .int .i64 v.1, .int .i64 v.2.1, .string v.2.2]) := XNq
          have BNq : Below w.heap.size w N := by rw [← hN]; exact put7_below B8.out (Nat.le_refl _) _ _ _ _ _ _ _
          have BN : Hid (Below w.heap.size w N.drew) := BNq.drew
          unfold put7 at hN
          rw [hN]
          go_wp2
          exact retW Try.results42 rfl rfl rfl rfl XN.out E.out BN.out
        · have n1 : (b0.1 != 1) = true := by simpa using k1
          have HO : Hid (rrO [a0, b0, u, v] = none) := rrO_no (fun h => k1 h.2.1)
          clear k0 k1
          have E : Hid (rrAns zs = (3, 0, 0, dV, dV)) := rr3' HL.out HK.out HO.out
          obtain ⟨y0, y1, y2, y3, y4, y5, y6⟩ := box7 X1.out
          obtain ⟨s0, s1, s2, s3, s4, s5, s6⟩ := thaw7 X1.out
          obtain ⟨N, hN⟩ : ∃ Q, put7 w1 w.heap.size (.int .i64 0) (.int .i64 0) (.int .i64 0) (.string ⟨#[]⟩) (.int .i64 0) (.int .i64 0) (.string ⟨#[]⟩) = Q := ⟨_, rfl⟩
          have XN : Hid (Box N w.heap.size 59 #[.int .i64 0, .int .i64 0, .int .i64 0, .string ⟨#[]⟩, .int .i64 0, .int .i64 0, .string ⟨#[]⟩]) := by unfold Hid; rw [← hN]; exact put7_box X1.out _ _ _ _ _ _ _
          have BN : Hid (Below w.heap.size w N) := by unfold Hid; rw [← hN]; exact put7_below B1.out (Nat.le_refl _) _ _ _ _ _ _ _
          unfold put7 at hN
          go_wp2
          exact retW Try.results42 rfl rfl rfl rfl XN.out E.out BN.out
      · have n0 : (a0.1 != 1) = true := by simpa using k0
        have HO : Hid (rrO [a0, b0, u, v] = none) := rrO_no (fun h => k0 h.1)
        clear k0
        have E : Hid (rrAns zs = (3, 0, 0, dV, dV)) := rr3' HL.out HK.out HO.out
        obtain ⟨y0, y1, y2, y3, y4, y5, y6⟩ := box7 X1.out
        obtain ⟨s0, s1, s2, s3, s4, s5, s6⟩ := thaw7 X1.out
        obtain ⟨N, hN⟩ : ∃ Q, put7 w1 w.heap.size (.int .i64 0) (.int .i64 0) (.int .i64 0) (.string ⟨#[]⟩) (.int .i64 0) (.int .i64 0) (.string ⟨#[]⟩) = Q := ⟨_, rfl⟩
        have XN : Hid (Box N w.heap.size 59 #[.int .i64 0, .int .i64 0, .int .i64 0, .string ⟨#[]⟩, .int .i64 0, .int .i64 0, .string ⟨#[]⟩]) := by unfold Hid; rw [← hN]; exact put7_box X1.out _ _ _ _ _ _ _
        have BN : Hid (Below w.heap.size w N) := by unfold Hid; rw [← hN]; exact put7_below B1.out (Nat.le_refl _) _ _ _ _ _ _ _
        unfold put7 at hN
        go_wp2
        exact retW Try.results42 rfl rfl rfl rfl XN.out E.out BN.out
    · have HO : Hid (rrO l = none) := rrO_len h4
      have n4 : ((l.length : Int) != 4) = true := by simp; omega
      clear h4
      go_enter Try.func42, Try.ntmps42
      go_wp2_with fail
      refine CQ.out.mono ?_
      unfold AnsQ
      rw [EQ.out.1, EQ.out.2]
      rintro e w1 ⟨av, cv, rfl, ho, hb⟩
      have B1 : Hid (Below w.heap.size w w1) := BV.out.trans (hb.mono BV.out.size)
      have X1 : Hid (Box w1 w.heap.size 59 #[.int .i64 0, .int .i64 0, .int .i64 0, .string ⟨#[]⟩, .int .i64 0, .int .i64 0, .string ⟨#[]⟩]) := XV.out.belowS hb
      clear ho hb CQ hV
      have E : Hid (rrAns zs = (3, 0, 0, dV, dV)) := rr3' HL.out HK.out HO.out
      obtain ⟨y0, y1, y2, y3, y4, y5, y6⟩ := box7 X1.out
      obtain ⟨s0, s1, s2, s3, s4, s5, s6⟩ := thaw7 X1.out
      obtain ⟨N, hN⟩ : ∃ Q, put7 w1 w.heap.size (.int .i64 0) (.int .i64 0) (.int .i64 0) (.string ⟨#[]⟩) (.int .i64 0) (.int .i64 0) (.string ⟨#[]⟩) = Q := ⟨_, rfl⟩
      have XN : Hid (Box N w.heap.size 59 #[.int .i64 0, .int .i64 0, .int .i64 0, .string ⟨#[]⟩, .int .i64 0, .int .i64 0, .string ⟨#[]⟩]) := by unfold Hid; rw [← hN]; exact put7_box X1.out _ _ _ _ _ _ _
      have BN : Hid (Below w.heap.size w N) := by unfold Hid; rw [← hN]; exact put7_below B1.out (Nat.le_refl _) _ _ _ _ _ _ _
      unfold put7 at hN
      go_wp2
      exact retW Try.results42 rfl rfl rfl rfl XN.out E.out BN.out

end Go.Proofs.Ytkfkhfagehcmiaa
