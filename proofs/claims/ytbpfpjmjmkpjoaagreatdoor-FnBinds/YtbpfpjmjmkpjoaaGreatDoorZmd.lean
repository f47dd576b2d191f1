/-
  The specification's parser: comparisons, denials; all levels together.
-/
import Derived.Test.YtbpfpjmjmkpjoaaGreatDoorZmc
namespace Go.Proofs.YtbpfpjmjmkpjoaaGreatDoor
open Go Go.RowKit
attribute [local go_sem ↓] Go.wp_at_zero Go.wp_at_succ

set_option linter.unusedVariables false
set_option linter.unusedSimpArgs false
set_option maxRecDepth 100000 in
set_option maxHeartbeats 8000000 in
theorem d_mul (ds : DC 247) : DC 241 := by
  intro B g w T i L c o h hc
  have HS0 : Hid (StS B g w T i L c o) := h
  have HC : (c == 0) = false := hc
  clear h hc
  go_enter Tryz.func241, Tryz.ntmps241
  have C := ds B g w T i L c o HS0.out HC
  go_wp2_with fail
  refine C.mono ?_
  rintro e w1 ⟨z1, i1, L1, rfl, hs1, hb1⟩
  have HS1 : Hid (StS B g w1 T i1 L1 (c) (o)) := hs1
  have HB1 : Hid (Below B w w1) := (Below.refl _ _ : Below B w w).trans hb1
  clear C hs1 hb1
  go_wp2_with fail
  go_loopw [3] (fun a wr => a = .int .i64 z1 ∧ StS B g wr T i1 L1 c o ∧ Below B w wr) (fun _ _ => 0)
  case atStart => exact ⟨rfl, HS1.out, HB1.out⟩
  case round =>
    obtain ⟨rfl, hs2, hb2⟩ := hrel
    have HS2 : Hid (StS B g wr T i1 L1 c o) := hs2
    have HB2 : Hid (Below B w wr) := hb2
    have C := s_takeD ⟨#[42]⟩ B g wr T i1 L1 c o hs2 HC
    clear hs2 hb2
    go_wp2_with fail
    refine C.mono ?_
    rintro e w3 ⟨rfl, hs3, hb3⟩
    have HS3 : Hid (StS B g w3 T i1 L1 c o) := hs3
    have HB3 : Hid (Below B w w3) := HB2.out.trans (hb3.mono (by have a1 := HS2.out.base; have a2 := HS2.out.lt; omega))
    clear C hs3 hb3
    have C := s_takeD ⟨#[47]⟩ B g w3 T i1 L1 c o HS3.out HC
    go_wp2_with fail
    refine C.mono ?_
    rintro e w4 ⟨rfl, hs4, hb4⟩
    have HS4 : Hid (StS B g w4 T i1 L1 (c) (o)) := hs4
    have HB4 : Hid (Below B w w4) := (HB3.out : Below B w w3).trans (hb4.mono (by have a1 := HS3.out.base; have a2 := HS3.out.lt; omega))
    clear C hs4 hb4
    go_wp2
    go_ret
    exact ⟨z1, i1, L1, rfl, HS4.out, HB4.out⟩
set_option maxRecDepth 100000 in
set_option maxHeartbeats 8000000 in
theorem s_mul (T' : List ByteArray) (ds : DC 247) (hs : ∀ T2, T2.length ≤ T'.length → SC 247 (Ch.mul).sub T2) : SC 241 (.ch .mul) T' := by
  intro B g w T i L o r h hd ho hp
  subst hd
  have hn : L.length ≤ 40 := h.tok.2.2.2
  obtain ⟨r0, hp0, hp1⟩ : ∃ r0, Parses (Ch.mul).sub o (T.drop i) L.length r0 ∧ ((∃ e, r0 = .err e ∧ r = .err e) ∨ ∃ q T1 n1, r0 = .ok q T1 n1 ∧ Parses (.more .mul q) o T1 n1 r) := by
    cases hp with
    | chE h => exact ⟨_, h, .inl ⟨_, rfl, rfl⟩⟩
    | chO h h2 => exact ⟨_, h, .inr ⟨_, _, _, rfl, h2⟩⟩
  have C := hs (T.drop i) (Nat.le_refl _) B g w T i L o r0 h rfl ho hp0
  have HS : Hid (∀ T2, T2.length ≤ (T.drop i).length → SC 247 (Ch.mul).sub T2) := hs
  have HDD : Hid (DC 247) := ds
  have ST : Hid (∀ (w1 : World) (e : Ending), LiveA B g T L o r0 w e w1 → ∃ z, e = .returned (.int .i64 z) ∧ ScRel .mul B g w T i L o r z w1) := fun w1 e ha => chain_start hn hp0 hp1 ha
  clear hs ds h hp hp0 hp1
  go_enter Tryz.func241, Tryz.ntmps241
  go_wp2_with fail
  refine C.mono ?_
  intro e w1 ha
  obtain ⟨z, rfl, hrel0⟩ := ST.out w1 e ha
  have HR0 : Hid (ScRel .mul B g w T i L o r z w1) := hrel0
  clear ha hrel0 C ST
  go_wp2_with fail
  go_loopw [3] (fun a wr => ∃ z : Int, a = .int .i64 z ∧ ScRel .mul B g w T i L o r z wr) (fun _ wr => sPos wr g)
  case atStart => exact ⟨z, rfl, HR0.out⟩
  case round =>
    clear HR0
    obtain ⟨z, rfl, hb, hrel⟩ := hrel
    have HB : Hid (Below B w wr) := hb
    clear hb
    rcases hrel with ⟨q, T1, n1, i1, rfl, hq, hn1, h40, hd1, hlt, hs1, hm⟩ | ⟨e0, i1, L1, hne, rfl, hs1⟩
    · obtain ⟨Q, hQ⟩ : ∃ Q, L ++ nodesP q L.length = Q := ⟨_, rfl⟩
      have HQ : Hid (L ++ nodesP q L.length = Q) := hQ
      rw [hQ] at hs1
      have HS1 : Hid (StS B g wr T i1 Q 0 (o : Int)) := hs1
      have HM : Hid (Parses (.more .mul q) o T1 n1 r) := hm
      have HD1 : Hid (T.drop i1 = T1) := hd1
      have HN1 : Hid (n1 = L.length + q.cnt) := hn1
      have HLT : Hid (T1.length < (T.drop i).length) := hlt
      have HQL : Hid (Q.length = n1) := by unfold Hid; rw [← hQ, List.length_append, nodes_len, hn1]
      have HOK : Hid (q.ok = true) := hq
      clear hs1 hm hd1 hn1 hlt hQ hq
      by_cases hk : nxt T1 = sgT ((8 : Nat) : Int)
      · have hk2 : nxt (T.drop i1) = ⟨#[42]⟩ := by rw [HD1.out]; exact hk
        have hil : i1 < T.length := nxt_pos2 hk2 (by decide)
        have sg : sgn (Ch.mul).lo (Ch.mul).hi T1 = 8 := by show sgn 8 9 T1 = 8; unfold sgn; exact if_pos hk
        obtain ⟨r1, hp1, hf1, hcase⟩ := more_inv HM.out sg (by decide) h40 HOK.out
        rw [← HD1.out, List.drop_drop, ← HQL.out] at hp1
        have HIL : Hid (i1 < T.length) := hil
        have HP1 : Hid (Parses (Ch.mul).sub o (T.drop (i1 + 1)) Q.length r1) := hp1
        have BN : Hid (∀ (w5 w3 : World) (e : Ending), LiveA B g T Q o r1 w5 e w3 → _) := fun w5 w3 e ha => bin_next (w := w5) HQ.out HN1.out HLT.out hcase hf1 ha
        clear hk hp1 hcase hf1 sg
        have C := s_takeY ⟨#[42]⟩ B g wr T i1 Q 0 (o : Int) HS1.out rfl hk2 hil
        go_wp2_with fail
        refine C.mono ?_
        rintro e w2 ⟨rfl, hs2, hb2⟩
        have HS2 : Hid (StS B g w2 T (i1 + 1) Q (0) ((o : Int))) := hs2
        have HB2 : Hid (Below B w w2) := (HB.out : Below B w wr).trans hb2
        clear C hs2 hb2
        clear hk2 hil
        have C := HS.out (T.drop (i1 + 1)) (by have := HLT.out; rw [← HD1.out, List.length_drop] at this; rw [List.length_drop] at this ⊢; rw [List.length_drop]; have := HIL.out; omega) B g w2 T (i1 + 1) Q o r1 HS2.out rfl ho HP1.out
        go_wp2_with fail
        refine C.mono ?_
        intro e w4 ha
        obtain ⟨z2, rfl, hb4, hcs⟩ := BN.out w2 w4 e ha
        have HB4 : Hid (Below B w w4) := HB2.out.trans hb4
        clear C ha hb4 BN
        rcases hcs with ⟨e0, i3, L3, hne, rfl, hs4⟩ | ⟨i3, Q2, rfl, hq40, rfl, hs4⟩ | ⟨i3, Q2, p2, T2, n2, rfl, hq40, hs4, hd3, hn2, hn3, hok2, hlt2, hm2, hnod⟩
        · have HC : (e0 == 0) = false := hne
          have HS4 : Hid (StS B g w4 T i3 L3 (e0) ((o : Int))) := hs4
          clear hs4 hne
          have C := s_putD ⟨8, (n1 : Int) - 1, z2, 0, 0, 0, ⟨#[]⟩⟩ B g w4 T i3 L3 (e0) ((o : Int)) HS4.out HC
          go_wp2_with fail
          refine C.mono ?_
          rintro e w5 ⟨z5, L5, rfl, hs5, hb5⟩
          have HS5 : Hid (StS B g w5 T i3 L5 (e0) ((o : Int))) := hs5
          have HB5 : Hid (Below B w w5) := HB4.out.trans hb5
          clear C hs5 hb5
          go_wp2
          go_roundw
          case rel => exact ⟨z5, rfl, HB5.out, .inr ⟨e0, i3, L5, HC, rfl, HS5.out⟩⟩
          case measure =>
            rw [HS5.out.pos, HS1.out.pos, if_neg (by simpa using HC), if_pos rfl]
            have := HIL.out
            omega
        · have HS4 : Hid (StS B g w4 T i3 Q2 (0) ((o : Int))) := hs4
          have HQ40 : Hid (Q2.length = 40) := hq40
          clear hs4 hq40
          have C := s_putM ⟨8, (n1 : Int) - 1, (Q2.length : Int) - 1, 0, 0, 0, ⟨#[]⟩⟩ B g w4 T i3 Q2 0 (o : Int) HS4.out rfl HQ40.out
          go_wp2_with fail
          refine C.mono ?_
          rintro e w5 ⟨rfl, hs5, hb5⟩
          have HS5 : Hid (StS B g w5 T i3 Q2 (6) ((o : Int))) := hs5
          have HB5 : Hid (Below B w w5) := (HB4.out : Below B w w4).trans hb5
          clear C hs5 hb5
          go_wp2
          go_roundw
          case rel => exact ⟨0, rfl, HB5.out, .inr ⟨6, i3, Q2, by decide, rfl, HS5.out⟩⟩
          case measure =>
            rw [HS5.out.pos, HS1.out.pos, if_neg (by decide), if_pos rfl]
            have := HIL.out
            omega
        · have HS4 : Hid (StS B g w4 T i3 Q2 (0) ((o : Int))) := hs4
          have HX : Hid (T.drop i3 = T2 ∧ n2 = Q2.length + 1 ∧ n2 = L.length + p2.cnt ∧ p2.ok = true ∧ T2.length < T1.length ∧ Parses (.more .mul p2) o T2 n2 r ∧ Q2 ++ [(⟨((8 : Nat) : Int), (n1 : Int) - 1, (Q2.length : Int) - 1, 0, 0, 0, ⟨#[]⟩⟩ : EN)] = L ++ nodesP p2 L.length) := ⟨hd3, hn2, hn3, hok2, hlt2, hm2, hnod⟩
          clear hs4 hd3 hn2 hn3 hok2 hlt2 hm2 hnod
          have C := s_put ⟨8, (n1 : Int) - 1, (Q2.length : Int) - 1, 0, 0, 0, ⟨#[]⟩⟩ B g w4 T i3 Q2 0 (o : Int) HS4.out hq40
          go_wp2_with fail
          refine C.mono ?_
          rintro e w5 ⟨rfl, hs5, hb5⟩
          have HS5 : Hid (StS B g w5 T i3 (Q2 ++ [⟨8, (n1 : Int) - 1, (Q2.length : Int) - 1, 0, 0, 0, ⟨#[]⟩⟩]) (0) ((o : Int))) := hs5
          have HB5 : Hid (Below B w w5) := (HB4.out : Below B w w4).trans hb5
          clear C hs5 hb5
          go_wp2
          go_roundw
          case rel =>
            obtain ⟨x1, x2, x3, x4, x5, x6, x7⟩ := HX.out
            have hs5 := HS5.out
            rw [show ((8 : Int)) = ((8 : Nat) : Int) from rfl, x7] at hs5
            exact ⟨(n2 : Int) - 1, by rw [x2]; congr 1; omega, HB5.out, .inl ⟨p2, T2, n2, i3, rfl, x4, x3, by omega, x1, by have := HLT.out; omega, hs5, x6⟩⟩
          case measure =>
            rw [HS5.out.pos, HS1.out.pos, if_pos rfl, if_pos rfl]
            have x1 := HX.out.1
            have x5 := HX.out.2.2.2.2.1
            rw [← x1, ← HD1.out, List.length_drop, List.length_drop] at x5
            have := HIL.out
            omega
      · have hk9 : nxt (T.drop i1) ≠ ⟨#[42]⟩ := by rw [HD1.out]; exact hk
        by_cases hj : nxt T1 = sgT ((9 : Nat) : Int)
        · skip
          have hk2 : nxt (T.drop i1) = ⟨#[47]⟩ := by rw [HD1.out]; exact hj
          have hil : i1 < T.length := nxt_pos2 hk2 (by decide)
          have sg : sgn (Ch.mul).lo (Ch.mul).hi T1 = 9 := by show sgn 8 9 T1 = 9; unfold sgn; rw [if_neg hk]; exact if_pos hj
          obtain ⟨r1, hp1, hf1, hcase⟩ := more_inv HM.out sg (by decide) h40 HOK.out
          rw [← HD1.out, List.drop_drop, ← HQL.out] at hp1
          have HIL : Hid (i1 < T.length) := hil
          have HP1 : Hid (Parses (Ch.mul).sub o (T.drop (i1 + 1)) Q.length r1) := hp1
          have BN : Hid (∀ (w5 w3 : World) (e : Ending), LiveA B g T Q o r1 w5 e w3 → _) := fun w5 w3 e ha => bin_next (w := w5) HQ.out HN1.out HLT.out hcase hf1 ha
          clear hk hj hp1 hcase hf1 sg
          have C := s_takeN ⟨#[42]⟩ B g wr T i1 Q 0 (o : Int) HS1.out rfl hk9
          go_wp2_with fail
          refine C.mono ?_
          rintro e w2 ⟨rfl, hs2, hb2⟩
          have HS2 : Hid (StS B g w2 T i1 Q (0) ((o : Int))) := hs2
          have HB2 : Hid (Below B w w2) := (HB.out : Below B w wr).trans (hb2.mono (by have a1 := HS1.out.base; have a2 := HS1.out.lt; omega))
          clear C hs2 hb2
          have C := s_takeY ⟨#[47]⟩ B g w2 T i1 Q 0 (o : Int) HS2.out rfl hk2 hil
          go_wp2_with fail
          refine C.mono ?_
          rintro e w3 ⟨rfl, hs3, hb3⟩
          have HS3 : Hid (StS B g w3 T (i1 + 1) Q (0) ((o : Int))) := hs3
          have HB3 : Hid (Below B w w3) := (HB2.out : Below B w w2).trans hb3
          clear C hs3 hb3
          clear hk2 hil hk9
          have C := HS.out (T.drop (i1 + 1)) (by have := HLT.out; rw [← HD1.out, List.length_drop] at this; rw [List.length_drop] at this ⊢; rw [List.length_drop]; have := HIL.out; omega) B g w3 T (i1 + 1) Q o r1 HS3.out rfl ho HP1.out
          go_wp2_with fail
          refine C.mono ?_
          intro e w4 ha
          obtain ⟨z2, rfl, hb4, hcs⟩ := BN.out w3 w4 e ha
          have HB4 : Hid (Below B w w4) := HB3.out.trans hb4
          clear C ha hb4 BN
          rcases hcs with ⟨e0, i3, L3, hne, rfl, hs4⟩ | ⟨i3, Q2, rfl, hq40, rfl, hs4⟩ | ⟨i3, Q2, p2, T2, n2, rfl, hq40, hs4, hd3, hn2, hn3, hok2, hlt2, hm2, hnod⟩
          · have HC : (e0 == 0) = false := hne
            have HS4 : Hid (StS B g w4 T i3 L3 (e0) ((o : Int))) := hs4
            clear hs4 hne
            have C := s_putD ⟨9, (n1 : Int) - 1, z2, 0, 0, 0, ⟨#[]⟩⟩ B g w4 T i3 L3 (e0) ((o : Int)) HS4.out HC
            go_wp2_with fail
            refine C.mono ?_
            rintro e w5 ⟨z5, L5, rfl, hs5, hb5⟩
            have HS5 : Hid (StS B g w5 T i3 L5 (e0) ((o : Int))) := hs5
            have HB5 : Hid (Below B w w5) := HB4.out.trans hb5
            clear C hs5 hb5
            go_wp2
            go_roundw
            case rel => exact ⟨z5, rfl, HB5.out, .inr ⟨e0, i3, L5, HC, rfl, HS5.out⟩⟩
            case measure =>
              rw [HS5.out.pos, HS1.out.pos, if_neg (by simpa using HC), if_pos rfl]
              have := HIL.out
              omega
          · have HS4 : Hid (StS B g w4 T i3 Q2 (0) ((o : Int))) := hs4
            have HQ40 : Hid (Q2.length = 40) := hq40
            clear hs4 hq40
            have C := s_putM ⟨9, (n1 : Int) - 1, (Q2.length : Int) - 1, 0, 0, 0, ⟨#[]⟩⟩ B g w4 T i3 Q2 0 (o : Int) HS4.out rfl HQ40.out
            go_wp2_with fail
            refine C.mono ?_
            rintro e w5 ⟨rfl, hs5, hb5⟩
            have HS5 : Hid (StS B g w5 T i3 Q2 (6) ((o : Int))) := hs5
            have HB5 : Hid (Below B w w5) := (HB4.out : Below B w w4).trans hb5
            clear C hs5 hb5
            go_wp2
            go_roundw
            case rel => exact ⟨0, rfl, HB5.out, .inr ⟨6, i3, Q2, by decide, rfl, HS5.out⟩⟩
            case measure =>
              rw [HS5.out.pos, HS1.out.pos, if_neg (by decide), if_pos rfl]
              have := HIL.out
              omega
          · have HS4 : Hid (StS B g w4 T i3 Q2 (0) ((o : Int))) := hs4
            have HX : Hid (T.drop i3 = T2 ∧ n2 = Q2.length + 1 ∧ n2 = L.length + p2.cnt ∧ p2.ok = true ∧ T2.length < T1.length ∧ Parses (.more .mul p2) o T2 n2 r ∧ Q2 ++ [(⟨((9 : Nat) : Int), (n1 : Int) - 1, (Q2.length : Int) - 1, 0, 0, 0, ⟨#[]⟩⟩ : EN)] = L ++ nodesP p2 L.length) := ⟨hd3, hn2, hn3, hok2, hlt2, hm2, hnod⟩
            clear hs4 hd3 hn2 hn3 hok2 hlt2 hm2 hnod
            have C := s_put ⟨9, (n1 : Int) - 1, (Q2.length : Int) - 1, 0, 0, 0, ⟨#[]⟩⟩ B g w4 T i3 Q2 0 (o : Int) HS4.out hq40
            go_wp2_with fail
            refine C.mono ?_
            rintro e w5 ⟨rfl, hs5, hb5⟩
            have HS5 : Hid (StS B g w5 T i3 (Q2 ++ [⟨9, (n1 : Int) - 1, (Q2.length : Int) - 1, 0, 0, 0, ⟨#[]⟩⟩]) (0) ((o : Int))) := hs5
            have HB5 : Hid (Below B w w5) := (HB4.out : Below B w w4).trans hb5
            clear C hs5 hb5
            go_wp2
            go_roundw
            case rel =>
              obtain ⟨x1, x2, x3, x4, x5, x6, x7⟩ := HX.out
              have hs5 := HS5.out
              rw [show ((9 : Int)) = ((9 : Nat) : Int) from rfl, x7] at hs5
              exact ⟨(n2 : Int) - 1, by rw [x2]; congr 1; omega, HB5.out, .inl ⟨p2, T2, n2, i3, rfl, x4, x3, by omega, x1, by have := HLT.out; omega, hs5, x6⟩⟩
            case measure =>
              rw [HS5.out.pos, HS1.out.pos, if_pos rfl, if_pos rfl]
              have x1 := HX.out.1
              have x5 := HX.out.2.2.2.2.1
              rw [← x1, ← HD1.out, List.length_drop, List.length_drop] at x5
              have := HIL.out
              omega
        · have hk2 : nxt (T.drop i1) ≠ ⟨#[47]⟩ := by rw [HD1.out]; exact hj
          have sg : sgn (Ch.mul).lo (Ch.mul).hi T1 = 0 := by show sgn 8 9 T1 = 0; unfold sgn; rw [if_neg hk, if_neg hj]
          have E : Hid (r = .ok q T1 n1) := more_none HM.out sg
          clear hk hj sg
          have C := s_takeN ⟨#[42]⟩ B g wr T i1 Q 0 (o : Int) HS1.out rfl hk9
          go_wp2_with fail
          refine C.mono ?_
          rintro e w2 ⟨rfl, hs2, hb2⟩
          have HS2 : Hid (StS B g w2 T i1 Q (0) ((o : Int))) := hs2
          have HB2 : Hid (Below B w w2) := (HB.out : Below B w wr).trans (hb2.mono (by have a1 := HS1.out.base; have a2 := HS1.out.lt; omega))
          clear C hs2 hb2
          have C := s_takeN ⟨#[47]⟩ B g w2 T i1 Q 0 (o : Int) HS2.out rfl hk2
          go_wp2_with fail
          refine C.mono ?_
          rintro e w3 ⟨rfl, hs3, hb3⟩
          have HS3 : Hid (StS B g w3 T i1 Q (0) ((o : Int))) := hs3
          have HB3 : Hid (Below B w w3) := (HB2.out : Below B w w2).trans (hb3.mono (by have a1 := HS2.out.base; have a2 := HS2.out.lt; omega))
          clear C hs3 hb3
          go_wp2
          go_ret
          rw [E.out]
          exact ⟨i1, rfl, HD1.out, HN1.out, by rw [HQ.out]; exact HS3.out, HB3.out⟩
    · have HS1 : Hid (StS B g wr T i1 L1 e0 (o : Int)) := hs1
      have HN : (e0 == 0) = false := hne
      clear hs1
      have C := s_takeD ⟨#[42]⟩ B g wr T i1 L1 e0 (o : Int) HS1.out HN
      go_wp2_with fail
      refine C.mono ?_
      rintro e w2 ⟨rfl, hs2, hb2⟩
      have HS2 : Hid (StS B g w2 T i1 L1 (e0) ((o : Int))) := hs2
      have HB2 : Hid (Below B w w2) := (HB.out : Below B w wr).trans (hb2.mono (by have a1 := HS1.out.base; have a2 := HS1.out.lt; omega))
      clear C hs2 hb2
      have C := s_takeD ⟨#[47]⟩ B g w2 T i1 L1 e0 (o : Int) HS2.out HN
      go_wp2_with fail
      refine C.mono ?_
      rintro e w3 ⟨rfl, hs3, hb3⟩
      have HS3 : Hid (StS B g w3 T i1 L1 (e0) ((o : Int))) := hs3
      have HB3 : Hid (Below B w w3) := (HB2.out : Below B w w2).trans (hb3.mono (by have a1 := HS2.out.base; have a2 := HS2.out.lt; omega))
      clear C hs3 hb3
      go_wp2
      go_ret
      exact ⟨HN, z, i1, L1, rfl, HS3.out, HB3.out⟩
set_option maxRecDepth 100000 in
set_option maxHeartbeats 8000000 in
theorem d_sum (ds : DC 241) : DC 224 := by
  intro B g w T i L c o h hc
  have HS0 : Hid (StS B g w T i L c o) := h
  have HC : (c == 0) = false := hc
  clear h hc
  go_enter Tryz.func224, Tryz.ntmps224
  have C := ds B g w T i L c o HS0.out HC
  go_wp2_with fail
  refine C.mono ?_
  rintro e w1 ⟨z1, i1, L1, rfl, hs1, hb1⟩
  have HS1 : Hid (StS B g w1 T i1 L1 (c) (o)) := hs1
  have HB1 : Hid (Below B w w1) := (Below.refl _ _ : Below B w w).trans hb1
  clear C hs1 hb1
  go_wp2_with fail
  go_loopw [3] (fun a wr => a = .int .i64 z1 ∧ StS B g wr T i1 L1 c o ∧ Below B w wr) (fun _ _ => 0)
  case atStart => exact ⟨rfl, HS1.out, HB1.out⟩
  case round =>
    obtain ⟨rfl, hs2, hb2⟩ := hrel
    have HS2 : Hid (StS B g wr T i1 L1 c o) := hs2
    have HB2 : Hid (Below B w wr) := hb2
    have C := s_takeD ⟨#[43]⟩ B g wr T i1 L1 c o hs2 HC
    clear hs2 hb2
    go_wp2_with fail
    refine C.mono ?_
    rintro e w3 ⟨rfl, hs3, hb3⟩
    have HS3 : Hid (StS B g w3 T i1 L1 c o) := hs3
    have HB3 : Hid (Below B w w3) := HB2.out.trans (hb3.mono (by have a1 := HS2.out.base; have a2 := HS2.out.lt; omega))
    clear C hs3 hb3
    have C := s_takeD ⟨#[45]⟩ B g w3 T i1 L1 c o HS3.out HC
    go_wp2_with fail
    refine C.mono ?_
    rintro e w4 ⟨rfl, hs4, hb4⟩
    have HS4 : Hid (StS B g w4 T i1 L1 (c) (o)) := hs4
    have HB4 : Hid (Below B w w4) := (HB3.out : Below B w w3).trans (hb4.mono (by have a1 := HS3.out.base; have a2 := HS3.out.lt; omega))
    clear C hs4 hb4
    go_wp2
    go_ret
    exact ⟨z1, i1, L1, rfl, HS4.out, HB4.out⟩
set_option maxRecDepth 100000 in
set_option maxHeartbeats 8000000 in
theorem s_sum (T' : List ByteArray) (ds : DC 241) (hs : ∀ T2, T2.length ≤ T'.length → SC 241 (Ch.sum).sub T2) : SC 224 (.ch .sum) T' := by
  intro B g w T i L o r h hd ho hp
  subst hd
  have hn : L.length ≤ 40 := h.tok.2.2.2
  obtain ⟨r0, hp0, hp1⟩ : ∃ r0, Parses (Ch.sum).sub o (T.drop i) L.length r0 ∧ ((∃ e, r0 = .err e ∧ r = .err e) ∨ ∃ q T1 n1, r0 = .ok q T1 n1 ∧ Parses (.more .sum q) o T1 n1 r) := by
    cases hp with
    | chE h => exact ⟨_, h, .inl ⟨_, rfl, rfl⟩⟩
    | chO h h2 => exact ⟨_, h, .inr ⟨_, _, _, rfl, h2⟩⟩
  have C := hs (T.drop i) (Nat.le_refl _) B g w T i L o r0 h rfl ho hp0
  have HS : Hid (∀ T2, T2.length ≤ (T.drop i).length → SC 241 (Ch.sum).sub T2) := hs
  have HDD : Hid (DC 241) := ds
  have ST : Hid (∀ (w1 : World) (e : Ending), LiveA B g T L o r0 w e w1 → ∃ z, e = .returned (.int .i64 z) ∧ ScRel .sum B g w T i L o r z w1) := fun w1 e ha => chain_start hn hp0 hp1 ha
  clear hs ds h hp hp0 hp1
  go_enter Tryz.func224, Tryz.ntmps224
  go_wp2_with fail
  refine C.mono ?_
  intro e w1 ha
  obtain ⟨z, rfl, hrel0⟩ := ST.out w1 e ha
  have HR0 : Hid (ScRel .sum B g w T i L o r z w1) := hrel0
  clear ha hrel0 C ST
  go_wp2_with fail
  go_loopw [3] (fun a wr => ∃ z : Int, a = .int .i64 z ∧ ScRel .sum B g w T i L o r z wr) (fun _ wr => sPos wr g)
  case atStart => exact ⟨z, rfl, HR0.out⟩
  case round =>
    clear HR0
    obtain ⟨z, rfl, hb, hrel⟩ := hrel
    have HB : Hid (Below B w wr) := hb
    clear hb
    rcases hrel with ⟨q, T1, n1, i1, rfl, hq, hn1, h40, hd1, hlt, hs1, hm⟩ | ⟨e0, i1, L1, hne, rfl, hs1⟩
    · obtain ⟨Q, hQ⟩ : ∃ Q, L ++ nodesP q L.length = Q := ⟨_, rfl⟩
      have HQ : Hid (L ++ nodesP q L.length = Q) := hQ
      rw [hQ] at hs1
      have HS1 : Hid (StS B g wr T i1 Q 0 (o : Int)) := hs1
      have HM : Hid (Parses (.more .sum q) o T1 n1 r) := hm
      have HD1 : Hid (T.drop i1 = T1) := hd1
      have HN1 : Hid (n1 = L.length + q.cnt) := hn1
      have HLT : Hid (T1.length < (T.drop i).length) := hlt
      have HQL : Hid (Q.length = n1) := by unfold Hid; rw [← hQ, List.length_append, nodes_len, hn1]
      have HOK : Hid (q.ok = true) := hq
      clear hs1 hm hd1 hn1 hlt hQ hq
      by_cases hk : nxt T1 = sgT ((6 : Nat) : Int)
      · have hk2 : nxt (T.drop i1) = ⟨#[43]⟩ := by rw [HD1.out]; exact hk
        have hil : i1 < T.length := nxt_pos2 hk2 (by decide)
        have sg : sgn (Ch.sum).lo (Ch.sum).hi T1 = 6 := by show sgn 6 7 T1 = 6; unfold sgn; exact if_pos hk
        obtain ⟨r1, hp1, hf1, hcase⟩ := more_inv HM.out sg (by decide) h40 HOK.out
        rw [← HD1.out, List.drop_drop, ← HQL.out] at hp1
        have HIL : Hid (i1 < T.length) := hil
        have HP1 : Hid (Parses (Ch.sum).sub o (T.drop (i1 + 1)) Q.length r1) := hp1
        have BN : Hid (∀ (w5 w3 : World) (e : Ending), LiveA B g T Q o r1 w5 e w3 → _) := fun w5 w3 e ha => bin_next (w := w5) HQ.out HN1.out HLT.out hcase hf1 ha
        clear hk hp1 hcase hf1 sg
        have C := s_takeY ⟨#[43]⟩ B g wr T i1 Q 0 (o : Int) HS1.out rfl hk2 hil
        go_wp2_with fail
        refine C.mono ?_
        rintro e w2 ⟨rfl, hs2, hb2⟩
        have HS2 : Hid (StS B g w2 T (i1 + 1) Q (0) ((o : Int))) := hs2
        have HB2 : Hid (Below B w w2) := (HB.out : Below B w wr).trans hb2
        clear C hs2 hb2
        clear hk2 hil
        have C := HS.out (T.drop (i1 + 1)) (by have := HLT.out; rw [← HD1.out, List.length_drop] at this; rw [List.length_drop] at this ⊢; rw [List.length_drop]; have := HIL.out; omega) B g w2 T (i1 + 1) Q o r1 HS2.out rfl ho HP1.out
        go_wp2_with fail
        refine C.mono ?_
        intro e w4 ha
        obtain ⟨z2, rfl, hb4, hcs⟩ := BN.out w2 w4 e ha
        have HB4 : Hid (Below B w w4) := HB2.out.trans hb4
        clear C ha hb4 BN
        rcases hcs with ⟨e0, i3, L3, hne, rfl, hs4⟩ | ⟨i3, Q2, rfl, hq40, rfl, hs4⟩ | ⟨i3, Q2, p2, T2, n2, rfl, hq40, hs4, hd3, hn2, hn3, hok2, hlt2, hm2, hnod⟩
        · have HC : (e0 == 0) = false := hne
          have HS4 : Hid (StS B g w4 T i3 L3 (e0) ((o : Int))) := hs4
          clear hs4 hne
          have C := s_putD ⟨6, (n1 : Int) - 1, z2, 0, 0, 0, ⟨#[]⟩⟩ B g w4 T i3 L3 (e0) ((o : Int)) HS4.out HC
          go_wp2_with fail
          refine C.mono ?_
          rintro e w5 ⟨z5, L5, rfl, hs5, hb5⟩
          have HS5 : Hid (StS B g w5 T i3 L5 (e0) ((o : Int))) := hs5
          have HB5 : Hid (Below B w w5) := HB4.out.trans hb5
          clear C hs5 hb5
          go_wp2
          go_roundw
          case rel => exact ⟨z5, rfl, HB5.out, .inr ⟨e0, i3, L5, HC, rfl, HS5.out⟩⟩
          case measure =>
            rw [HS5.out.pos, HS1.out.pos, if_neg (by simpa using HC), if_pos rfl]
            have := HIL.out
            omega
        · have HS4 : Hid (StS B g w4 T i3 Q2 (0) ((o : Int))) := hs4
          have HQ40 : Hid (Q2.length = 40) := hq40
          clear hs4 hq40
          have C := s_putM ⟨6, (n1 : Int) - 1, (Q2.length : Int) - 1, 0, 0, 0, ⟨#[]⟩⟩ B g w4 T i3 Q2 0 (o : Int) HS4.out rfl HQ40.out
          go_wp2_with fail
          refine C.mono ?_
          rintro e w5 ⟨rfl, hs5, hb5⟩
          have HS5 : Hid (StS B g w5 T i3 Q2 (6) ((o : Int))) := hs5
          have HB5 : Hid (Below B w w5) := (HB4.out : Below B w w4).trans hb5
          clear C hs5 hb5
          go_wp2
          go_roundw
          case rel => exact ⟨0, rfl, HB5.out, .inr ⟨6, i3, Q2, by decide, rfl, HS5.out⟩⟩
          case measure =>
            rw [HS5.out.pos, HS1.out.pos, if_neg (by decide), if_pos rfl]
            have := HIL.out
            omega
        · have HS4 : Hid (StS B g w4 T i3 Q2 (0) ((o : Int))) := hs4
          have HX : Hid (T.drop i3 = T2 ∧ n2 = Q2.length + 1 ∧ n2 = L.length + p2.cnt ∧ p2.ok = true ∧ T2.length < T1.length ∧ Parses (.more .sum p2) o T2 n2 r ∧ Q2 ++ [(⟨((6 : Nat) : Int), (n1 : Int) - 1, (Q2.length : Int) - 1, 0, 0, 0, ⟨#[]⟩⟩ : EN)] = L ++ nodesP p2 L.length) := ⟨hd3, hn2, hn3, hok2, hlt2, hm2, hnod⟩
          clear hs4 hd3 hn2 hn3 hok2 hlt2 hm2 hnod
          have C := s_put ⟨6, (n1 : Int) - 1, (Q2.length : Int) - 1, 0, 0, 0, ⟨#[]⟩⟩ B g w4 T i3 Q2 0 (o : Int) HS4.out hq40
          go_wp2_with fail
          refine C.mono ?_
          rintro e w5 ⟨rfl, hs5, hb5⟩
          have HS5 : Hid (StS B g w5 T i3 (Q2 ++ [⟨6, (n1 : Int) - 1, (Q2.length : Int) - 1, 0, 0, 0, ⟨#[]⟩⟩]) (0) ((o : Int))) := hs5
          have HB5 : Hid (Below B w w5) := (HB4.out : Below B w w4).trans hb5
          clear C hs5 hb5
          go_wp2
          go_roundw
          case rel =>
            obtain ⟨x1, x2, x3, x4, x5, x6, x7⟩ := HX.out
            have hs5 := HS5.out
            rw [show ((6 : Int)) = ((6 : Nat) : Int) from rfl, x7] at hs5
            exact ⟨(n2 : Int) - 1, by rw [x2]; congr 1; omega, HB5.out, .inl ⟨p2, T2, n2, i3, rfl, x4, x3, by omega, x1, by have := HLT.out; omega, hs5, x6⟩⟩
          case measure =>
            rw [HS5.out.pos, HS1.out.pos, if_pos rfl, if_pos rfl]
            have x1 := HX.out.1
            have x5 := HX.out.2.2.2.2.1
            rw [← x1, ← HD1.out, List.length_drop, List.length_drop] at x5
            have := HIL.out
            omega
      · have hk9 : nxt (T.drop i1) ≠ ⟨#[43]⟩ := by rw [HD1.out]; exact hk
        by_cases hj : nxt T1 = sgT ((7 : Nat) : Int)
        · skip
          have hk2 : nxt (T.drop i1) = ⟨#[45]⟩ := by rw [HD1.out]; exact hj
          have hil : i1 < T.length := nxt_pos2 hk2 (by decide)
          have sg : sgn (Ch.sum).lo (Ch.sum).hi T1 = 7 := by show sgn 6 7 T1 = 7; unfold sgn; rw [if_neg hk]; exact if_pos hj
          obtain ⟨r1, hp1, hf1, hcase⟩ := more_inv HM.out sg (by decide) h40 HOK.out
          rw [← HD1.out, List.drop_drop, ← HQL.out] at hp1
          have HIL : Hid (i1 < T.length) := hil
          have HP1 : Hid (Parses (Ch.sum).sub o (T.drop (i1 + 1)) Q.length r1) := hp1
          have BN : Hid (∀ (w5 w3 : World) (e : Ending), LiveA B g T Q o r1 w5 e w3 → _) := fun w5 w3 e ha => bin_next (w := w5) HQ.out HN1.out HLT.out hcase hf1 ha
          clear hk hj hp1 hcase hf1 sg
          have C := s_takeN ⟨#[43]⟩ B g wr T i1 Q 0 (o : Int) HS1.out rfl hk9
          go_wp2_with fail
          refine C.mono ?_
          rintro e w2 ⟨rfl, hs2, hb2⟩
          have HS2 : Hid (StS B g w2 T i1 Q (0) ((o : Int))) := hs2
          have HB2 : Hid (Below B w w2) := (HB.out : Below B w wr).trans (hb2.mono (by have a1 := HS1.out.base; have a2 := HS1.out.lt; omega))
          clear C hs2 hb2
          have C := s_takeY ⟨#[45]⟩ B g w2 T i1 Q 0 (o : Int) HS2.out rfl hk2 hil
          go_wp2_with fail
          refine C.mono ?_
          rintro e w3 ⟨rfl, hs3, hb3⟩
          have HS3 : Hid (StS B g w3 T (i1 + 1) Q (0) ((o : Int))) := hs3
          have HB3 : Hid (Below B w w3) := (HB2.out : Below B w w2).trans hb3
          clear C hs3 hb3
          clear hk2 hil hk9
          have C := HS.out (T.drop (i1 + 1)) (by have := HLT.out; rw [← HD1.out, List.length_drop] at this; rw [List.length_drop] at this ⊢; rw [List.length_drop]; have := HIL.out; omega) B g w3 T (i1 + 1) Q o r1 HS3.out rfl ho HP1.out
          go_wp2_with fail
          refine C.mono ?_
          intro e w4 ha
          obtain ⟨z2, rfl, hb4, hcs⟩ := BN.out w3 w4 e ha
          have HB4 : Hid (Below B w w4) := HB3.out.trans hb4
          clear C ha hb4 BN
          rcases hcs with ⟨e0, i3, L3, hne, rfl, hs4⟩ | ⟨i3, Q2, rfl, hq40, rfl, hs4⟩ | ⟨i3, Q2, p2, T2, n2, rfl, hq40, hs4, hd3, hn2, hn3, hok2, hlt2, hm2, hnod⟩
          · have HC : (e0 == 0) = false := hne
            have HS4 : Hid (StS B g w4 T i3 L3 (e0) ((o : Int))) := hs4
            clear hs4 hne
            have C := s_putD ⟨7, (n1 : Int) - 1, z2, 0, 0, 0, ⟨#[]⟩⟩ B g w4 T i3 L3 (e0) ((o : Int)) HS4.out HC
            go_wp2_with fail
            refine C.mono ?_
            rintro e w5 ⟨z5, L5, rfl, hs5, hb5⟩
            have HS5 : Hid (StS B g w5 T i3 L5 (e0) ((o : Int))) := hs5
            have HB5 : Hid (Below B w w5) := HB4.out.trans hb5
            clear C hs5 hb5
            go_wp2
            go_roundw
            case rel => exact ⟨z5, rfl, HB5.out, .inr ⟨e0, i3, L5, HC, rfl, HS5.out⟩⟩
            case measure =>
              rw [HS5.out.pos, HS1.out.pos, if_neg (by simpa using HC), if_pos rfl]
              have := HIL.out
              omega
          · have HS4 : Hid (StS B g w4 T i3 Q2 (0) ((o : Int))) := hs4
            have HQ40 : Hid (Q2.length = 40) := hq40
            clear hs4 hq40
            have C := s_putM ⟨7, (n1 : Int) - 1, (Q2.length : Int) - 1, 0, 0, 0, ⟨#[]⟩⟩ B g w4 T i3 Q2 0 (o : Int) HS4.out rfl HQ40.out
            go_wp2_with fail
            refine C.mono ?_
            rintro e w5 ⟨rfl, hs5, hb5⟩
            have HS5 : Hid (StS B g w5 T i3 Q2 (6) ((o : Int))) := hs5
            have HB5 : Hid (Below B w w5) := (HB4.out : Below B w w4).trans hb5
            clear C hs5 hb5
            go_wp2
            go_roundw
            case rel => exact ⟨0, rfl, HB5.out, .inr ⟨6, i3, Q2, by decide, rfl, HS5.out⟩⟩
            case measure =>
              rw [HS5.out.pos, HS1.out.pos, if_neg (by decide), if_pos rfl]
              have := HIL.out
              omega
          · have HS4 : Hid (StS B g w4 T i3 Q2 (0) ((o : Int))) := hs4
            have HX : Hid (T.drop i3 = T2 ∧ n2 = Q2.length + 1 ∧ n2 = L.length + p2.cnt ∧ p2.ok = true ∧ T2.length < T1.length ∧ Parses (.more .sum p2) o T2 n2 r ∧ Q2 ++ [(⟨((7 : Nat) : Int), (n1 : Int) - 1, (Q2.length : Int) - 1, 0, 0, 0, ⟨#[]⟩⟩ : EN)] = L ++ nodesP p2 L.length) := ⟨hd3, hn2, hn3, hok2, hlt2, hm2, hnod⟩
            clear hs4 hd3 hn2 hn3 hok2 hlt2 hm2 hnod
            have C := s_put ⟨7, (n1 : Int) - 1, (Q2.length : Int) - 1, 0, 0, 0, ⟨#[]⟩⟩ B g w4 T i3 Q2 0 (o : Int) HS4.out hq40
            go_wp2_with fail
            refine C.mono ?_
            rintro e w5 ⟨rfl, hs5, hb5⟩
            have HS5 : Hid (StS B g w5 T i3 (Q2 ++ [⟨7, (n1 : Int) - 1, (Q2.length : Int) - 1, 0, 0, 0, ⟨#[]⟩⟩]) (0) ((o : Int))) := hs5
            have HB5 : Hid (Below B w w5) := (HB4.out : Below B w w4).trans hb5
            clear C hs5 hb5
            go_wp2
            go_roundw
            case rel =>
              obtain ⟨x1, x2, x3, x4, x5, x6, x7⟩ := HX.out
              have hs5 := HS5.out
              rw [show ((7 : Int)) = ((7 : Nat) : Int) from rfl, x7] at hs5
              exact ⟨(n2 : Int) - 1, by rw [x2]; congr 1; omega, HB5.out, .inl ⟨p2, T2, n2, i3, rfl, x4, x3, by omega, x1, by have := HLT.out; omega, hs5, x6⟩⟩
            case measure =>
              rw [HS5.out.pos, HS1.out.pos, if_pos rfl, if_pos rfl]
              have x1 := HX.out.1
              have x5 := HX.out.2.2.2.2.1
              rw [← x1, ← HD1.out, List.length_drop, List.length_drop] at x5
              have := HIL.out
              omega
        · have hk2 : nxt (T.drop i1) ≠ ⟨#[45]⟩ := by rw [HD1.out]; exact hj
          have sg : sgn (Ch.sum).lo (Ch.sum).hi T1 = 0 := by show sgn 6 7 T1 = 0; unfold sgn; rw [if_neg hk, if_neg hj]
          have E : Hid (r = .ok q T1 n1) := more_none HM.out sg
          clear hk hj sg
          have C := s_takeN ⟨#[43]⟩ B g wr T i1 Q 0 (o : Int) HS1.out rfl hk9
          go_wp2_with fail
          refine C.mono ?_
          rintro e w2 ⟨rfl, hs2, hb2⟩
          have HS2 : Hid (StS B g w2 T i1 Q (0) ((o : Int))) := hs2
          have HB2 : Hid (Below B w w2) := (HB.out : Below B w wr).trans (hb2.mono (by have a1 := HS1.out.base; have a2 := HS1.out.lt; omega))
          clear C hs2 hb2
          have C := s_takeN ⟨#[45]⟩ B g w2 T i1 Q 0 (o : Int) HS2.out rfl hk2
          go_wp2_with fail
          refine C.mono ?_
          rintro e w3 ⟨rfl, hs3, hb3⟩
          have HS3 : Hid (StS B g w3 T i1 Q (0) ((o : Int))) := hs3
          have HB3 : Hid (Below B w w3) := (HB2.out : Below B w w2).trans (hb3.mono (by have a1 := HS2.out.base; have a2 := HS2.out.lt; omega))
          clear C hs3 hb3
          go_wp2
          go_ret
          rw [E.out]
          exact ⟨i1, rfl, HD1.out, HN1.out, by rw [HQ.out]; exact HS3.out, HB3.out⟩
    · have HS1 : Hid (StS B g wr T i1 L1 e0 (o : Int)) := hs1
      have HN : (e0 == 0) = false := hne
      clear hs1
      have C := s_takeD ⟨#[43]⟩ B g wr T i1 L1 e0 (o : Int) HS1.out HN
      go_wp2_with fail
      refine C.mono ?_
      rintro e w2 ⟨rfl, hs2, hb2⟩
      have HS2 : Hid (StS B g w2 T i1 L1 (e0) ((o : Int))) := hs2
      have HB2 : Hid (Below B w w2) := (HB.out : Below B w wr).trans (hb2.mono (by have a1 := HS1.out.base; have a2 := HS1.out.lt; omega))
      clear C hs2 hb2
      have C := s_takeD ⟨#[45]⟩ B g w2 T i1 L1 e0 (o : Int) HS2.out HN
      go_wp2_with fail
      refine C.mono ?_
      rintro e w3 ⟨rfl, hs3, hb3⟩
      have HS3 : Hid (StS B g w3 T i1 L1 (e0) ((o : Int))) := hs3
      have HB3 : Hid (Below B w w3) := (HB2.out : Below B w w2).trans (hb3.mono (by have a1 := HS2.out.base; have a2 := HS2.out.lt; omega))
      clear C hs3 hb3
      go_wp2
      go_ret
      exact ⟨HN, z, i1, L1, rfl, HS3.out, HB3.out⟩

end Go.Proofs.YtbpfpjmjmkpjoaaGreatDoor
namespace Go.Proofs.YtbpfpjmjmkpjoaaGreatDoor
open Go Go.RowKit
attribute [local go_sem ↓] Go.wp_at_zero Go.wp_at_succ

set_option linter.unusedVariables false
set_option linter.unusedSimpArgs false
set_option maxRecDepth 100000 in
set_option maxHeartbeats 8000000 in
theorem d_cmp (ds : DC 224) : DC 200 := by
  intro B g w T i L c o h hc
  have HS0 : Hid (StS B g w T i L c o) := h
  have HC : (c == 0) = false := hc
  clear h hc
  go_enter Tryz.func200, Tryz.ntmps200
  have C := ds B g w T i L c o HS0.out HC
  go_wp2_with fail
  refine C.mono ?_
  rintro e w1 ⟨z1, i1, L1, rfl, hs1, hb1⟩
  have HS1 : Hid (StS B g w1 T i1 L1 (c) (o)) := hs1
  have HB1 : Hid (Below B w w1) := (Below.refl _ _ : Below B w w).trans hb1
  clear C hs1 hb1
  have C := s_takeD ⟨#[61]⟩ B g w1 T i1 L1 c o HS1.out HC
  go_wp2_with fail
  refine C.mono ?_
  rintro e w2 ⟨rfl, hs2, hb2⟩
  have HS2 : Hid (StS B g w2 T i1 L1 (c) (o)) := hs2
  have HB2 : Hid (Below B w w2) := (HB1.out : Below B w w1).trans (hb2.mono (by have a1 := HS1.out.base; have a2 := HS1.out.lt; omega))
  clear C hs2 hb2
  have C := s_takeD ⟨#[60]⟩ B g w2 T i1 L1 c o HS2.out HC
  go_wp2_with fail
  refine C.mono ?_
  rintro e w3 ⟨rfl, hs3, hb3⟩
  have HS3 : Hid (StS B g w3 T i1 L1 (c) (o)) := hs3
  have HB3 : Hid (Below B w w3) := (HB2.out : Below B w w2).trans (hb3.mono (by have a1 := HS2.out.base; have a2 := HS2.out.lt; omega))
  clear C hs3 hb3
  have C := s_takeD ⟨#[105, 115]⟩ B g w3 T i1 L1 c o HS3.out HC
  go_wp2_with fail
  refine C.mono ?_
  rintro e w4 ⟨rfl, hs4, hb4⟩
  have HS4 : Hid (StS B g w4 T i1 L1 (c) (o)) := hs4
  have HB4 : Hid (Below B w w4) := (HB3.out : Below B w w3).trans (hb4.mono (by have a1 := HS3.out.base; have a2 := HS3.out.lt; omega))
  clear C hs4 hb4
  go_wp2
  go_ret
  exact ⟨z1, i1, L1, rfl, HS4.out, HB4.out⟩
set_option maxRecDepth 100000 in
set_option maxHeartbeats 8000000 in
theorem d_not (ds : DC 200) : DC 172 := by
  intro B g w T i L c o h hc
  have HS0 : Hid (StS B g w T i L c o) := h
  have HC : (c == 0) = false := hc
  clear h hc
  go_enter Tryz.func172, Tryz.ntmps172
  have C := s_takeD ⟨#[110, 111, 116]⟩ B g w T i L c o HS0.out HC
  go_wp2_with fail
  refine C.mono ?_
  rintro e w1 ⟨rfl, hs1, hb1⟩
  have HS1 : Hid (StS B g w1 T i L (c) (o)) := hs1
  have HB1 : Hid (Below B w w1) := (Below.refl _ _ : Below B w w).trans (hb1.mono (by have a1 := HS0.out.base; have a2 := HS0.out.lt; omega))
  clear C hs1 hb1
  have C := ds B g w1 T i L c o HS1.out HC
  go_wp2_with fail
  refine C.mono ?_
  rintro e w2 ⟨z2, i2, L2, rfl, hs2, hb2⟩
  have HS2 : Hid (StS B g w2 T i2 L2 (c) (o)) := hs2
  have HB2 : Hid (Below B w w2) := (HB1.out : Below B w w1).trans hb2
  clear C hs2 hb2
  go_wp2
  go_ret
  exact ⟨z2, i2, L2, rfl, HS2.out, HB2.out⟩
theorem una_nodes {L Q : List EN} {k : Int} {p : PT} {n1 : Nat} (hQ : L ++ nodesP p L.length = Q) (h1 : n1 = L.length + p.cnt) :
    Q ++ [(⟨k, (n1 : Int) - 1, 0, 0, 0, 0, ⟨#[]⟩⟩ : EN)] = L ++ nodesP (.una k p) L.length := by
  rw [← hQ, nodesP, nodes_len, ← List.append_assoc, ← h1]
set_option maxRecDepth 100000 in
set_option maxHeartbeats 8000000 in
theorem s_cmp (T' : List ByteArray) (hs : ∀ T2, T2.length ≤ T'.length → SC 224 (.ch .sum) T2) : SC 200 .cmp T' := by
  intro B g w T i L o r h hd ho hp
  subst hd
  have hn : L.length ≤ 40 := h.tok.2.2.2
  obtain ⟨r0, hp0, hp1⟩ := cmp_inv hp hn
  have C := hs (T.drop i) (Nat.le_refl _) B g w T i L o r0 h rfl ho hp0
  have HS : Hid (∀ T2, T2.length ≤ (T.drop i).length → SC 224 (.ch .sum) T2) := hs
  clear hs h hp hp0
  rcases hp1 with ⟨e0, rfl, rfl⟩ | ⟨p, T1, n1, rfl, h40, hlt, hc⟩
  · go_enter Tryz.func200, Tryz.ntmps200
    go_wp2_with fail
    refine C.mono ?_
    rintro e w1 ⟨hc, z1, i1, L1, rfl, hs1, hb1⟩
    have HC : (e0 == 0) = false := hc
    have HS1 : Hid (StS B g w1 T i1 L1 e0 (o : Int)) := hs1
    have HB1 : Hid (Below B w w1) := hb1
    clear C hs1 hb1 hc
    have C := s_takeD ⟨#[61]⟩ B g w1 T i1 L1 e0 (o : Int) HS1.out HC
    go_wp2_with fail
    refine C.mono ?_
    rintro e w2 ⟨rfl, hs2, hb2⟩
    have HS2 : Hid (StS B g w2 T i1 L1 (e0) ((o : Int))) := hs2
    have HB2 : Hid (Below B w w2) := (HB1.out : Below B w w1).trans (hb2.mono (by have a1 := HS1.out.base; have a2 := HS1.out.lt; omega))
    clear C hs2 hb2
    have C := s_takeD ⟨#[60]⟩ B g w2 T i1 L1 e0 (o : Int) HS2.out HC
    go_wp2_with fail
    refine C.mono ?_
    rintro e w3 ⟨rfl, hs3, hb3⟩
    have HS3 : Hid (StS B g w3 T i1 L1 (e0) ((o : Int))) := hs3
    have HB3 : Hid (Below B w w3) := (HB2.out : Below B w w2).trans (hb3.mono (by have a1 := HS2.out.base; have a2 := HS2.out.lt; omega))
    clear C hs3 hb3
    have C := s_takeD ⟨#[105, 115]⟩ B g w3 T i1 L1 e0 (o : Int) HS3.out HC
    go_wp2_with fail
    refine C.mono ?_
    rintro e w4 ⟨rfl, hs4, hb4⟩
    have HS4 : Hid (StS B g w4 T i1 L1 (e0) ((o : Int))) := hs4
    have HB4 : Hid (Below B w w4) := (HB3.out : Below B w w3).trans (hb4.mono (by have a1 := HS3.out.base; have a2 := HS3.out.lt; omega))
    clear C hs4 hb4
    go_wp2
    go_ret
    exact ⟨HC, z1, i1, L1, rfl, HS4.out, HB4.out⟩
  · have HLT : Hid (T1.length < (T.drop i).length) := hlt
    obtain ⟨Q, hQ⟩ : ∃ Q, L ++ nodesP p L.length = Q := ⟨_, rfl⟩
    have HQ : Hid (L ++ nodesP p L.length = Q) := hQ
    have HCS : Hid ((nxt T1 = wIs ∧ nxt (T1.drop 1) ≠ wNull ∧ r = .err 3) ∨
      (nxt T1 = wIs ∧ nxt (T1.drop 1) = wNull ∧ n1 = 40 ∧ r = .err 6) ∨ (nxt T1 = wIs ∧ nxt (T1.drop 1) = wNull ∧ n1 < 40 ∧ r = .ok (.una 4 p) (T1.drop 2) (n1 + 1)) ∨
      (nxt T1 ≠ wIs ∧ ∃ k, sgn 10 11 T1 = k ∧ k ≠ 0 ∧ 1 ≤ T1.length ∧ ∃ r1, Parses (.ch .sum) o (T1.drop 1) n1 r1 ∧ r1.fits ∧ r = biR (k : Int) p r1) ∨
      (nxt T1 ≠ wIs ∧ sgn 10 11 T1 = 0 ∧ r = .ok p T1 n1)) := hc
    clear hlt hc
    go_enter Tryz.func200, Tryz.ntmps200
    go_wp2_with fail
    refine C.mono ?_
    rintro e w1 ⟨i1, rfl, hd1, hn1, hs1, hb1⟩
    rw [hQ] at hs1
    have HS1 : Hid (StS B g w1 T i1 Q 0 (o : Int)) := hs1
    have HB1 : Hid (Below B w w1) := hb1
    have HD1 : Hid (T.drop i1 = T1) := hd1
    have HN1 : Hid (n1 = L.length + p.cnt) := hn1
    have HQL : Hid (Q.length = n1) := by unfold Hid; rw [← hQ, List.length_append, nodes_len, hn1]
    clear C hs1 hb1 hd1 hn1 hQ
    rcases HCS.out with ⟨h1, h2, rfl⟩ | ⟨h1, h2, h3, rfl⟩ | ⟨h1, h2, h3, rfl⟩ | ⟨h1, k, hk, k0, hl, r1, h3, h4, rfl⟩ | ⟨h1, h2, rfl⟩
    · have k1 : nxt (T.drop i1) = wIs := by rw [HD1.out]; exact h1
      have HI : Hid (nxt (T.drop i1) = wIs ∧ i1 < T.length) := ⟨k1, nxt_pos2 k1 (by decide)⟩
      have HE : Hid (nxt (T.drop i1) ≠ ⟨#[61]⟩ ∧ nxt (T.drop i1) ≠ ⟨#[60]⟩) := ⟨fun e => by rw [k1] at e; exact absurd e (by decide), fun e => by rw [k1] at e; exact absurd e (by decide)⟩
      have HNU : Hid (nxt (T.drop (i1 + 1)) ≠ wNull) := by unfold Hid; rw [← List.drop_drop, HD1.out]; exact h2
      have HC : ((3 : Int) == 0) = false := by decide
      clear HCS h1 h2 k1
      have C := s_takeN ⟨#[61]⟩ B g w1 T i1 Q 0 (o : Int) HS1.out rfl HE.out.1
      go_wp2_with fail
      refine C.mono ?_
      rintro e w2 ⟨rfl, hs2, hb2⟩
      have HS2 : Hid (StS B g w2 T i1 Q (0) ((o : Int))) := hs2
      have HB2 : Hid (Below B w w2) := (HB1.out : Below B w w1).trans (hb2.mono (by have a1 := HS1.out.base; have a2 := HS1.out.lt; omega))
      clear C hs2 hb2
      have C := s_takeN ⟨#[60]⟩ B g w2 T i1 Q 0 (o : Int) HS2.out rfl HE.out.2
      go_wp2_with fail
      refine C.mono ?_
      rintro e w3 ⟨rfl, hs3, hb3⟩
      have HS3 : Hid (StS B g w3 T i1 Q (0) ((o : Int))) := hs3
      have HB3 : Hid (Below B w w3) := (HB2.out : Below B w w2).trans (hb3.mono (by have a1 := HS2.out.base; have a2 := HS2.out.lt; omega))
      clear C hs3 hb3
      have C := s_takeY ⟨#[105, 115]⟩ B g w3 T i1 Q 0 (o : Int) HS3.out rfl HI.out.1 HI.out.2
      go_wp2_with fail
      refine C.mono ?_
      rintro e w4 ⟨rfl, hs4, hb4⟩
      have HS4 : Hid (StS B g w4 T (i1 + 1) Q (0) ((o : Int))) := hs4
      have HB4 : Hid (Below B w w4) := (HB3.out : Below B w w3).trans hb4
      clear C hs4 hb4
      have C := s_takeN ⟨#[110, 117, 108, 108]⟩ B g w4 T (i1 + 1) Q 0 (o : Int) HS4.out rfl HNU.out
      go_wp2_with fail
      refine C.mono ?_
      rintro e w5 ⟨rfl, hs5, hb5⟩
      have HS5 : Hid (StS B g w5 T (i1 + 1) Q (0) ((o : Int))) := hs5
      have HB5 : Hid (Below B w w5) := (HB4.out : Below B w w4).trans (hb5.mono (by have a1 := HS4.out.base; have a2 := HS4.out.lt; omega))
      clear C hs5 hb5
      have C := s_fail 3 B g w5 T (i1 + 1) Q 0 (o : Int) HS5.out rfl
      go_wp2_with fail
      refine C.mono ?_
      rintro e w6 ⟨rfl, hs6, hb6⟩
      have HS6 : Hid (StS B g w6 T (i1 + 1) Q (3) ((o : Int))) := hs6
      have HB6 : Hid (Below B w w6) := (HB5.out : Below B w w5).trans hb6
      clear C hs6 hb6
      have C := s_putD ⟨4, (n1 : Int) - 1, 0, 0, 0, 0, ⟨#[]⟩⟩ B g w6 T (i1 + 1) Q (3) ((o : Int)) HS6.out HC
      go_wp2_with fail
      refine C.mono ?_
      rintro e w7 ⟨z7, L7, rfl, hs7, hb7⟩
      have HS7 : Hid (StS B g w7 T (i1 + 1) L7 (3) ((o : Int))) := hs7
      have HB7 : Hid (Below B w w7) := HB6.out.trans hb7
      clear C hs7 hb7
      go_wp2
      go_ret
      exact ⟨HC, z7, i1 + 1, L7, rfl, HS7.out, HB7.out⟩
    · have k1 : nxt (T.drop i1) = wIs := by rw [HD1.out]; exact h1
      have HI : Hid (nxt (T.drop i1) = wIs ∧ i1 < T.length) := ⟨k1, nxt_pos2 k1 (by decide)⟩
      have HE : Hid (nxt (T.drop i1) ≠ ⟨#[61]⟩ ∧ nxt (T.drop i1) ≠ ⟨#[60]⟩) := ⟨fun e => by rw [k1] at e; exact absurd e (by decide), fun e => by rw [k1] at e; exact absurd e (by decide)⟩
      have k2 : nxt (T.drop (i1 + 1)) = wNull := by rw [← List.drop_drop, HD1.out]; exact h2
      have HNU : Hid (nxt (T.drop (i1 + 1)) = wNull ∧ i1 + 1 < T.length) := ⟨k2, nxt_pos2 k2 (by decide)⟩
      have HQ4 : Hid (Q.length = 40) := HQL.out.trans h3
      clear HCS h1 h2 h3 k1 k2
      have C := s_takeN ⟨#[61]⟩ B g w1 T i1 Q 0 (o : Int) HS1.out rfl HE.out.1
      go_wp2_with fail
      refine C.mono ?_
      rintro e w2 ⟨rfl, hs2, hb2⟩
      have HS2 : Hid (StS B g w2 T i1 Q (0) ((o : Int))) := hs2
      have HB2 : Hid (Below B w w2) := (HB1.out : Below B w w1).trans (hb2.mono (by have a1 := HS1.out.base; have a2 := HS1.out.lt; omega))
      clear C hs2 hb2
      have C := s_takeN ⟨#[60]⟩ B g w2 T i1 Q 0 (o : Int) HS2.out rfl HE.out.2
      go_wp2_with fail
      refine C.mono ?_
      rintro e w3 ⟨rfl, hs3, hb3⟩
      have HS3 : Hid (StS B g w3 T i1 Q (0) ((o : Int))) := hs3
      have HB3 : Hid (Below B w w3) := (HB2.out : Below B w w2).trans (hb3.mono (by have a1 := HS2.out.base; have a2 := HS2.out.lt; omega))
      clear C hs3 hb3
      have C := s_takeY ⟨#[105, 115]⟩ B g w3 T i1 Q 0 (o : Int) HS3.out rfl HI.out.1 HI.out.2
      go_wp2_with fail
      refine C.mono ?_
      rintro e w4 ⟨rfl, hs4, hb4⟩
      have HS4 : Hid (StS B g w4 T (i1 + 1) Q (0) ((o : Int))) := hs4
      have HB4 : Hid (Below B w w4) := (HB3.out : Below B w w3).trans hb4
      clear C hs4 hb4
      have C := s_takeY ⟨#[110, 117, 108, 108]⟩ B g w4 T (i1 + 1) Q 0 (o : Int) HS4.out rfl HNU.out.1 HNU.out.2
      go_wp2_with fail
      refine C.mono ?_
      rintro e w5 ⟨rfl, hs5, hb5⟩
      have HS5 : Hid (StS B g w5 T (i1 + 1 + 1) Q (0) ((o : Int))) := hs5
      have HB5 : Hid (Below B w w5) := (HB4.out : Below B w w4).trans hb5
      clear C hs5 hb5
      have C := s_putM ⟨4, (n1 : Int) - 1, 0, 0, 0, 0, ⟨#[]⟩⟩ B g w5 T (i1 + 1 + 1) Q 0 (o : Int) HS5.out rfl HQ4.out
      go_wp2_with fail
      refine C.mono ?_
      rintro e w6 ⟨rfl, hs6, hb6⟩
      have HS6 : Hid (StS B g w6 T (i1 + 1 + 1) Q (6) ((o : Int))) := hs6
      have HB6 : Hid (Below B w w6) := (HB5.out : Below B w w5).trans hb6
      clear C hs6 hb6
      go_wp2
      go_ret
      exact ⟨by decide, 0, i1 + 1 + 1, Q, rfl, HS6.out, HB6.out⟩
    · have k1 : nxt (T.drop i1) = wIs := by rw [HD1.out]; exact h1
      have HI : Hid (nxt (T.drop i1) = wIs ∧ i1 < T.length) := ⟨k1, nxt_pos2 k1 (by decide)⟩
      have HE : Hid (nxt (T.drop i1) ≠ ⟨#[61]⟩ ∧ nxt (T.drop i1) ≠ ⟨#[60]⟩) := ⟨fun e => by rw [k1] at e; exact absurd e (by decide), fun e => by rw [k1] at e; exact absurd e (by decide)⟩
      have k2 : nxt (T.drop (i1 + 1)) = wNull := by rw [← List.drop_drop, HD1.out]; exact h2
      have HNU : Hid (nxt (T.drop (i1 + 1)) = wNull ∧ i1 + 1 < T.length) := ⟨k2, nxt_pos2 k2 (by decide)⟩
      have HQ4 : Hid (Q.length < 40) := by unfold Hid; rw [HQL.out]; exact h3
      clear HCS h1 h2 h3 k1 k2
      have C := s_takeN ⟨#[61]⟩ B g w1 T i1 Q 0 (o : Int) HS1.out rfl HE.out.1
      go_wp2_with fail
      refine C.mono ?_
      rintro e w2 ⟨rfl, hs2, hb2⟩
      have HS2 : Hid (StS B g w2 T i1 Q (0) ((o : Int))) := hs2
      have HB2 : Hid (Below B w w2) := (HB1.out : Below B w w1).trans (hb2.mono (by have a1 := HS1.out.base; have a2 := HS1.out.lt; omega))
      clear C hs2 hb2
      have C := s_takeN ⟨#[60]⟩ B g w2 T i1 Q 0 (o : Int) HS2.out rfl HE.out.2
      go_wp2_with fail
      refine C.mono ?_
      rintro e w3 ⟨rfl, hs3, hb3⟩
      have HS3 : Hid (StS B g w3 T i1 Q (0) ((o : Int))) := hs3
      have HB3 : Hid (Below B w w3) := (HB2.out : Below B w w2).trans (hb3.mono (by have a1 := HS2.out.base; have a2 := HS2.out.lt; omega))
      clear C hs3 hb3
      have C := s_takeY ⟨#[105, 115]⟩ B g w3 T i1 Q 0 (o : Int) HS3.out rfl HI.out.1 HI.out.2
      go_wp2_with fail
      refine C.mono ?_
      rintro e w4 ⟨rfl, hs4, hb4⟩
      have HS4 : Hid (StS B g w4 T (i1 + 1) Q (0) ((o : Int))) := hs4
      have HB4 : Hid (Below B w w4) := (HB3.out : Below B w w3).trans hb4
      clear C hs4 hb4
      have C := s_takeY ⟨#[110, 117, 108, 108]⟩ B g w4 T (i1 + 1) Q 0 (o : Int) HS4.out rfl HNU.out.1 HNU.out.2
      go_wp2_with fail
      refine C.mono ?_
      rintro e w5 ⟨rfl, hs5, hb5⟩
      have HS5 : Hid (StS B g w5 T (i1 + 1 + 1) Q (0) ((o : Int))) := hs5
      have HB5 : Hid (Below B w w5) := (HB4.out : Below B w w4).trans hb5
      clear C hs5 hb5
      have C := s_put ⟨4, (n1 : Int) - 1, 0, 0, 0, 0, ⟨#[]⟩⟩ B g w5 T (i1 + 1 + 1) Q 0 (o : Int) HS5.out HQ4.out
      go_wp2_with fail
      refine C.mono ?_
      rintro e w6 ⟨rfl, hs6, hb6⟩
      have HS6 : Hid (StS B g w6 T (i1 + 1 + 1) (Q ++ [⟨4, (n1 : Int) - 1, 0, 0, 0, 0, ⟨#[]⟩⟩]) (0) ((o : Int))) := hs6
      have HB6 : Hid (Below B w w6) := (HB5.out : Below B w w5).trans hb6
      clear C hs6 hb6
      go_wp2
      go_ret
      have EN9 := una_nodes (k := 4) HQ.out HN1.out
      exact ⟨i1 + 1 + 1, by rw [HQL.out, show (((n1 + 1 : Nat) : Int) - 1) = (n1 : Int) by omega]; rfl, by rw [← HD1.out, List.drop_drop], by have q := HN1.out; simp only [PT.cnt]; omega, by rw [← EN9]; exact HS6.out, HB6.out⟩
    · obtain ⟨hkk, hkn⟩ := sgn_inv hk k0
      have hp3 : Parses (.ch .sum) o (T.drop (i1 + 1)) Q.length r1 := by rw [← List.drop_drop, HD1.out, HQL.out]; exact h3
      have HP : Hid (Parses (.ch .sum) o (T.drop (i1 + 1)) Q.length r1 ∧ r1.fits) := ⟨hp3, h4⟩
      rcases hkk with rfl | rfl
      · have k1 : nxt (T.drop i1) = ⟨#[61]⟩ := by rw [HD1.out]; exact hkn
        have HI : Hid (nxt (T.drop i1) = ⟨#[61]⟩ ∧ i1 < T.length) := ⟨k1, nxt_pos2 k1 (by decide)⟩
        clear HCS h1 hk k0 hl h3 h4 hkn hp3 k1
        have C := s_takeY ⟨#[61]⟩ B g w1 T i1 Q 0 (o : Int) HS1.out rfl HI.out.1 HI.out.2
        go_wp2_with fail
        refine C.mono ?_
        rintro e w2 ⟨rfl, hs2, hb2⟩
        have HS2 : Hid (StS B g w2 T (i1 + 1) Q (0) ((o : Int))) := hs2
        have HB2 : Hid (Below B w w2) := (HB1.out : Below B w w1).trans hb2
        clear C hs2 hb2
        have C := HS.out (T.drop (i1 + 1)) (by have q := HLT.out; rw [← HD1.out, List.length_drop, List.length_drop] at q; rw [List.length_drop, List.length_drop]; omega) B g w2 T (i1 + 1) Q o r1 HS2.out rfl ho HP.out.1
        cases r1 with
        | err c =>
          go_wp2_with fail
          refine C.mono ?_
          rintro e w4 ⟨hc4, z4, i4, L4, rfl, hs4, hb4⟩
          have HC : (c == 0) = false := hc4
          have HS4 : Hid (StS B g w4 T i4 L4 (c) ((o : Int))) := hs4
          have HB4 : Hid (Below B w w4) := HB2.out.trans hb4
          clear C hs4 hb4 hc4
          have C := s_putD ⟨10, (n1 : Int) - 1, z4, 0, 0, 0, ⟨#[]⟩⟩ B g w4 T i4 L4 (c) ((o : Int)) HS4.out HC
          go_wp2_with fail
          refine C.mono ?_
          rintro e w5 ⟨z5, L5, rfl, hs5, hb5⟩
          have HS5 : Hid (StS B g w5 T i4 L5 (c) ((o : Int))) := hs5
          have HB5 : Hid (Below B w w5) := HB4.out.trans hb5
          clear C hs5 hb5
          go_wp2
          go_ret
          exact ⟨HC, z5, i4, L5, rfl, HS5.out, HB5.out⟩
        | ok p3 T3 n3 =>
          have hn9 : n3 ≤ 40 := HP.out.2
          go_wp2_with fail
          refine C.mono ?_
          rintro e w4 ⟨i4, rfl, hd4, hn4, hs4, hb4⟩
          have HB4 : Hid (Below B w w4) := HB2.out.trans hb4
          have HD4 : Hid (T.drop i4 = T3) := hd4
          have HN4 : Hid (n3 = Q.length + p3.cnt) := hn4
          obtain ⟨Q2, hQ2⟩ : ∃ Q2, Q ++ nodesP p3 Q.length = Q2 := ⟨_, rfl⟩
          have HQ2 : Hid (Q ++ nodesP p3 Q.length = Q2) := hQ2
          have HQL2 : Hid (Q2.length = n3) := by unfold Hid; rw [← hQ2, List.length_append, nodes_len, hn4]
          rw [hQ2] at hs4
          have HS4 : Hid (StS B g w4 T i4 Q2 (0) ((o : Int))) := hs4
          clear C hs4 hb4 hd4 hn4 hQ2
          by_cases h4 : n3 = 40
          · have E : Hid (biR ((10 : Nat) : Int) p (.ok p3 T3 n3) = .err 6) := by unfold Hid biR; simp only [h4, if_true]
            have HQ4 : Hid (Q2.length = 40) := HQL2.out.trans h4
            clear h4
            have C := s_putM ⟨10, (n1 : Int) - 1, (n3 : Int) - 1, 0, 0, 0, ⟨#[]⟩⟩ B g w4 T i4 Q2 0 (o : Int) HS4.out rfl HQ4.out
            go_wp2_with fail
            refine C.mono ?_
            rintro e w5 ⟨rfl, hs5, hb5⟩
            have HS5 : Hid (StS B g w5 T i4 Q2 (6) ((o : Int))) := hs5
            have HB5 : Hid (Below B w w5) := (HB4.out : Below B w w4).trans hb5
            clear C hs5 hb5
            go_wp2
            go_ret
            rw [E.out]
            exact ⟨by decide, 0, i4, Q2, rfl, HS5.out, HB5.out⟩
          · have E : Hid (biR ((10 : Nat) : Int) p (.ok p3 T3 n3) = .ok (.bin ((10 : Nat) : Int) p p3) T3 (n3 + 1)) := by unfold Hid biR; simp only [if_neg h4]
            have HQ4 : Hid (Q2.length < 40) := by unfold Hid; rw [HQL2.out]; omega
            clear h4
            have C := s_put ⟨10, (n1 : Int) - 1, (n3 : Int) - 1, 0, 0, 0, ⟨#[]⟩⟩ B g w4 T i4 Q2 0 (o : Int) HS4.out HQ4.out
            go_wp2_with fail
            refine C.mono ?_
            rintro e w5 ⟨rfl, hs5, hb5⟩
            have HS5 : Hid (StS B g w5 T i4 (Q2 ++ [⟨10, (n1 : Int) - 1, (n3 : Int) - 1, 0, 0, 0, ⟨#[]⟩⟩]) (0) ((o : Int))) := hs5
            have HB5 : Hid (Below B w w5) := (HB4.out : Below B w w4).trans hb5
            clear C hs5 hb5
            go_wp2
            go_ret
            rw [E.out]
            have EN9 := bin_nodes (k := ((10 : Nat) : Int)) HQ.out HN1.out HN4.out
            rw [HQ2.out] at EN9
            exact ⟨i4, by rw [HQL2.out, show (((n3 + 1 : Nat) : Int) - 1) = (n3 : Int) by omega]; rfl, HD4.out, by have q := HN1.out; have q2 := HN4.out; have q3 := HQL.out; simp only [PT.cnt]; omega, by rw [← EN9]; exact HS5.out, HB5.out⟩
      · have k1 : nxt (T.drop i1) = ⟨#[60]⟩ := by rw [HD1.out]; exact hkn
        have HI : Hid (nxt (T.drop i1) = ⟨#[60]⟩ ∧ i1 < T.length) := ⟨k1, nxt_pos2 k1 (by decide)⟩
        have HE : Hid (nxt (T.drop i1) ≠ ⟨#[61]⟩) := fun e => by rw [k1] at e; exact absurd e (by decide)
        clear HCS h1 hk k0 hl h3 h4 hkn hp3 k1
        have C := s_takeN ⟨#[61]⟩ B g w1 T i1 Q 0 (o : Int) HS1.out rfl HE.out
        go_wp2_with fail
        refine C.mono ?_
        rintro e w2 ⟨rfl, hs2, hb2⟩
        have HS2 : Hid (StS B g w2 T i1 Q (0) ((o : Int))) := hs2
        have HB2 : Hid (Below B w w2) := (HB1.out : Below B w w1).trans (hb2.mono (by have a1 := HS1.out.base; have a2 := HS1.out.lt; omega))
        clear C hs2 hb2
        have C := s_takeY ⟨#[60]⟩ B g w2 T i1 Q 0 (o : Int) HS2.out rfl HI.out.1 HI.out.2
        go_wp2_with fail
        refine C.mono ?_
        rintro e w3 ⟨rfl, hs3, hb3⟩
        have HS3 : Hid (StS B g w3 T (i1 + 1) Q (0) ((o : Int))) := hs3
        have HB3 : Hid (Below B w w3) := (HB2.out : Below B w w2).trans hb3
        clear C hs3 hb3
        have C := HS.out (T.drop (i1 + 1)) (by have q := HLT.out; rw [← HD1.out, List.length_drop, List.length_drop] at q; rw [List.length_drop, List.length_drop]; omega) B g w3 T (i1 + 1) Q o r1 HS3.out rfl ho HP.out.1
        cases r1 with
        | err c =>
          go_wp2_with fail
          refine C.mono ?_
          rintro e w4 ⟨hc4, z4, i4, L4, rfl, hs4, hb4⟩
          have HC : (c == 0) = false := hc4
          have HS4 : Hid (StS B g w4 T i4 L4 (c) ((o : Int))) := hs4
          have HB4 : Hid (Below B w w4) := HB3.out.trans hb4
          clear C hs4 hb4 hc4
          have C := s_putD ⟨11, (n1 : Int) - 1, z4, 0, 0, 0, ⟨#[]⟩⟩ B g w4 T i4 L4 (c) ((o : Int)) HS4.out HC
          go_wp2_with fail
          refine C.mono ?_
          rintro e w5 ⟨z5, L5, rfl, hs5, hb5⟩
          have HS5 : Hid (StS B g w5 T i4 L5 (c) ((o : Int))) := hs5
          have HB5 : Hid (Below B w w5) := HB4.out.trans hb5
          clear C hs5 hb5
          go_wp2
          go_ret
          exact ⟨HC, z5, i4, L5, rfl, HS5.out, HB5.out⟩
        | ok p3 T3 n3 =>
          have hn9 : n3 ≤ 40 := HP.out.2
          go_wp2_with fail
          refine C.mono ?_
          rintro e w4 ⟨i4, rfl, hd4, hn4, hs4, hb4⟩
          have HB4 : Hid (Below B w w4) := HB3.out.trans hb4
          have HD4 : Hid (T.drop i4 = T3) := hd4
          have HN4 : Hid (n3 = Q.length + p3.cnt) := hn4
          obtain ⟨Q2, hQ2⟩ : ∃ Q2, Q ++ nodesP p3 Q.length = Q2 := ⟨_, rfl⟩
          have HQ2 : Hid (Q ++ nodesP p3 Q.length = Q2) := hQ2
          have HQL2 : Hid (Q2.length = n3) := by unfold Hid; rw [← hQ2, List.length_append, nodes_len, hn4]
          rw [hQ2] at hs4
          have HS4 : Hid (StS B g w4 T i4 Q2 (0) ((o : Int))) := hs4
          clear C hs4 hb4 hd4 hn4 hQ2
          by_cases h4 : n3 = 40
          · have E : Hid (biR ((11 : Nat) : Int) p (.ok p3 T3 n3) = .err 6) := by unfold Hid biR; simp only [h4, if_true]
            have HQ4 : Hid (Q2.length = 40) := HQL2.out.trans h4
            clear h4
            have C := s_putM ⟨11, (n1 : Int) - 1, (n3 : Int) - 1, 0, 0, 0, ⟨#[]⟩⟩ B g w4 T i4 Q2 0 (o : Int) HS4.out rfl HQ4.out
            go_wp2_with fail
            refine C.mono ?_
            rintro e w5 ⟨rfl, hs5, hb5⟩
            have HS5 : Hid (StS B g w5 T i4 Q2 (6) ((o : Int))) := hs5
            have HB5 : Hid (Below B w w5) := (HB4.out : Below B w w4).trans hb5
            clear C hs5 hb5
            go_wp2
            go_ret
            rw [E.out]
            exact ⟨by decide, 0, i4, Q2, rfl, HS5.out, HB5.out⟩
          · have E : Hid (biR ((11 : Nat) : Int) p (.ok p3 T3 n3) = .ok (.bin ((11 : Nat) : Int) p p3) T3 (n3 + 1)) := by unfold Hid biR; simp only [if_neg h4]
            have HQ4 : Hid (Q2.length < 40) := by unfold Hid; rw [HQL2.out]; omega
            clear h4
            have C := s_put ⟨11, (n1 : Int) - 1, (n3 : Int) - 1, 0, 0, 0, ⟨#[]⟩⟩ B g w4 T i4 Q2 0 (o : Int) HS4.out HQ4.out
            go_wp2_with fail
            refine C.mono ?_
            rintro e w5 ⟨rfl, hs5, hb5⟩
            have HS5 : Hid (StS B g w5 T i4 (Q2 ++ [⟨11, (n1 : Int) - 1, (n3 : Int) - 1, 0, 0, 0, ⟨#[]⟩⟩]) (0) ((o : Int))) := hs5
            have HB5 : Hid (Below B w w5) := (HB4.out : Below B w w4).trans hb5
            clear C hs5 hb5
            go_wp2
            go_ret
            rw [E.out]
            have EN9 := bin_nodes (k := ((11 : Nat) : Int)) HQ.out HN1.out HN4.out
            rw [HQ2.out] at EN9
            exact ⟨i4, by rw [HQL2.out, show (((n3 + 1 : Nat) : Int) - 1) = (n3 : Int) by omega]; rfl, HD4.out, by have q := HN1.out; have q2 := HN4.out; have q3 := HQL.out; simp only [PT.cnt]; omega, by rw [← EN9]; exact HS5.out, HB5.out⟩
    · have HE : Hid (nxt (T.drop i1) ≠ ⟨#[61]⟩ ∧ nxt (T.drop i1) ≠ ⟨#[60]⟩) := by
        unfold Hid
        rw [HD1.out]
        unfold sgn at h2
        split at h2
        · cases h2
        · rename_i e1
          split at h2
          · cases h2
          · rename_i e2
            exact ⟨e1, e2⟩
      have HI : Hid (nxt (T.drop i1) ≠ wIs) := by unfold Hid; rw [HD1.out]; exact h1
      clear HCS h1 h2
      have C := s_takeN ⟨#[61]⟩ B g w1 T i1 Q 0 (o : Int) HS1.out rfl HE.out.1
      go_wp2_with fail
      refine C.mono ?_
      rintro e w2 ⟨rfl, hs2, hb2⟩
      have HS2 : Hid (StS B g w2 T i1 Q (0) ((o : Int))) := hs2
      have HB2 : Hid (Below B w w2) := (HB1.out : Below B w w1).trans (hb2.mono (by have a1 := HS1.out.base; have a2 := HS1.out.lt; omega))
      clear C hs2 hb2
      have C := s_takeN ⟨#[60]⟩ B g w2 T i1 Q 0 (o : Int) HS2.out rfl HE.out.2
      go_wp2_with fail
      refine C.mono ?_
      rintro e w3 ⟨rfl, hs3, hb3⟩
      have HS3 : Hid (StS B g w3 T i1 Q (0) ((o : Int))) := hs3
      have HB3 : Hid (Below B w w3) := (HB2.out : Below B w w2).trans (hb3.mono (by have a1 := HS2.out.base; have a2 := HS2.out.lt; omega))
      clear C hs3 hb3
      have C := s_takeN ⟨#[105, 115]⟩ B g w3 T i1 Q 0 (o : Int) HS3.out rfl HI.out
      go_wp2_with fail
      refine C.mono ?_
      rintro e w4 ⟨rfl, hs4, hb4⟩
      have HS4 : Hid (StS B g w4 T i1 Q (0) ((o : Int))) := hs4
      have HB4 : Hid (Below B w w4) := (HB3.out : Below B w w3).trans (hb4.mono (by have a1 := HS3.out.base; have a2 := HS3.out.lt; omega))
      clear C hs4 hb4
      go_wp2
      go_ret
      exact ⟨i1, rfl, HD1.out, HN1.out, by rw [HQ.out]; exact HS4.out, HB4.out⟩
set_option maxRecDepth 100000 in
set_option maxHeartbeats 8000000 in
theorem s_not (T' : List ByteArray) (dn : DC 172) (hc : SC 200 .cmp T') (hs : ∀ T2, T2.length < T'.length → SC 172 .den T2) : SC 172 .den T' := by
  intro B g w T i L o r h hd ho hp
  subst hd
  have hn : L.length ≤ 40 := h.tok.2.2.2
  have HS0 : Hid (StS B g w T i L 0 (o : Int)) := h
  have dd : (T.drop i).drop 1 = T.drop (i + 1) := by rw [List.drop_drop]
  rcases den_inv hp hn with ⟨h1, h2, rfl⟩ | ⟨h1, h2, r1, h3, h4, rfl⟩ | ⟨h1, h2⟩
  · subst h2
    have HC : ((16 : Int) == 0) = false := by decide
    have HH : Hid (nxt (T.drop i) = wNot ∧ i < T.length) := ⟨h1, nxt_pos2 h1 (by decide)⟩
    have HDN : Hid (DC 172) := dn
    clear h hp h1 hc hs dd dn
    go_enter Tryz.func172, Tryz.ntmps172
    have C := s_takeY ⟨#[110, 111, 116]⟩ B g w T i L 0 ((48 : Nat) : Int) HS0.out rfl HH.out.1 HH.out.2
    go_wp2_with fail
    refine C.mono ?_
    rintro e w1 ⟨rfl, hs1, hb1⟩
    have HS1 : Hid (StS B g w1 T (i + 1) L (0) (((48 : Nat) : Int))) := hs1
    have HB1 : Hid (Below B w w1) := (Below.refl _ _ : Below B w w).trans hb1
    clear C hs1 hb1
    have C := s_deepX B g w1 T (i + 1) L 0 ((48 : Nat) : Int) HS1.out rfl rfl
    go_wp2_with fail
    refine C.mono ?_
    rintro e w7 ⟨rfl, hs7, hb7⟩
    have HS7 : Hid (StS B g w7 T T.length L (16) (49)) := hs7
    have HB7 : Hid (Below B w w7) := (HB1.out : Below B w w1).trans hb7
    clear C hs7 hb7
    have C := HDN.out B g w7 T T.length L 16 49 HS7.out HC
    go_wp2_with fail
    refine C.mono ?_
    rintro e w8 ⟨z8, i8, L8, rfl, hs8, hb8⟩
    have HS8 : Hid (StS B g w8 T i8 L8 (16) (49)) := hs8
    have HB8 : Hid (Below B w w8) := (HB7.out : Below B w w7).trans hb8
    clear C hs8 hb8
    have C := s_deepB 49 B g w8 T i8 L8 16 49 HS8.out rfl (by decide) (by decide)
    go_wp2_with fail
    refine C.mono ?_
    rintro e w9 ⟨rfl, hs9, hb9⟩
    have HS9 : Hid (StS B g w9 T i8 L8 (16) (((49 : Nat) : Int) - 1)) := hs9
    have HB9 : Hid (Below B w w9) := (HB8.out : Below B w w8).trans hb9
    clear C hs9 hb9
    have C := s_putD ⟨3, z8, 0, 0, 0, 0, ⟨#[]⟩⟩ B g w9 T i8 L8 (16) (((49 : Nat) : Int) - 1) HS9.out HC
    go_wp2_with fail
    refine C.mono ?_
    rintro e w10 ⟨z10, L10, rfl, hs10, hb10⟩
    have HS10 : Hid (StS B g w10 T i8 L10 (16) (((49 : Nat) : Int) - 1)) := hs10
    have HB10 : Hid (Below B w w10) := HB9.out.trans hb10
    clear C hs10 hb10
    go_wp2
    go_ret
    exact ⟨HC, z10, i8, L10, rfl, HS10.out, HB10.out⟩
  · have HH : Hid (nxt (T.drop i) = wNot ∧ i < T.length) := ⟨h1, nxt_pos2 h1 (by decide)⟩
    have hil := nxt_pos2 h1 (by decide)
    rw [dd] at h3
    have HLU : Hid (SC 172 .den (T.drop (i + 1))) := hs _ (by rw [List.length_drop, List.length_drop]; omega)
    have HP : Hid (Parses .den (o + 1) (T.drop (i + 1)) L.length r1) := h3
    have OI9 : Hid (((o + 1 : Nat) : Int) - 1 = (o : Int)) := by unfold Hid; omega
    have hf : r1.fits := h4
    clear h hp h1 hc hs dd dn h3 hil
    go_enter Tryz.func172, Tryz.ntmps172
    have C := s_takeY ⟨#[110, 111, 116]⟩ B g w T i L 0 (o : Int) HS0.out rfl HH.out.1 HH.out.2
    go_wp2_with fail
    refine C.mono ?_
    rintro e w1 ⟨rfl, hs1, hb1⟩
    have HS1 : Hid (StS B g w1 T (i + 1) L (0) ((o : Int))) := hs1
    have HB1 : Hid (Below B w w1) := (Below.refl _ _ : Below B w w).trans hb1
    clear C hs1 hb1
    have C := s_deep o B g w1 T (i + 1) L 0 (o : Int) HS1.out rfl h2
    go_wp2_with fail
    refine C.mono ?_
    rintro e w7 ⟨rfl, hs7, hb7⟩
    have HS7 : Hid (StS B g w7 T (i + 1) L (0) (((o + 1 : Nat) : Int))) := by unfold Hid; rw [Int.natCast_add]; exact hs7
    have HB7 : Hid (Below B w w7) := (HB1.out : Below B w w1).trans hb7
    clear C hs7 hb7
    have C := HLU.out B g w7 T (i + 1) L (o + 1) r1 HS7.out rfl (by omega) HP.out
    cases r1 with
    | err c =>
      go_wp2_with fail
      refine C.mono ?_
      rintro e w8 ⟨hc8, z8, i8, L8, rfl, hs8, hb8⟩
      have HC : (c == 0) = false := hc8
      have HS8 : Hid (StS B g w8 T i8 L8 (c) (((o + 1 : Nat) : Int))) := hs8
      have HB8 : Hid (Below B w w8) := HB7.out.trans hb8
      clear C hs8 hb8 hc8
      have C := s_deepB (o + 1) B g w8 T i8 L8 c ((o + 1 : Nat) : Int) HS8.out rfl (by omega) (by omega)
      go_wp2_with fail
      refine C.mono ?_
      rintro e w9 ⟨rfl, hs9, hb9⟩
      have HS9 : Hid (StS B g w9 T i8 L8 (c) ((o : Int))) := by unfold Hid; rw [← OI9.out]; exact hs9
      have HB9 : Hid (Below B w w9) := (HB8.out : Below B w w8).trans hb9
      clear C hs9 hb9
      have C := s_putD ⟨3, z8, 0, 0, 0, 0, ⟨#[]⟩⟩ B g w9 T i8 L8 (c) ((o : Int)) HS9.out HC
      go_wp2_with fail
      refine C.mono ?_
      rintro e w10 ⟨z10, L10, rfl, hs10, hb10⟩
      have HS10 : Hid (StS B g w10 T i8 L10 (c) ((o : Int))) := hs10
      have HB10 : Hid (Below B w w10) := HB9.out.trans hb10
      clear C hs10 hb10
      go_wp2
      go_ret
      exact ⟨HC, z10, i8, L10, rfl, HS10.out, HB10.out⟩
    | ok p T1 n1 =>
      have hn9 : n1 ≤ 40 := hf
      go_wp2_with fail
      refine C.mono ?_
      rintro e w8 ⟨i8, rfl, hd8, hn8, hs8, hb8⟩
      have HS8 : Hid (StS B g w8 T i8 (L ++ nodesP p L.length) (0) (((o + 1 : Nat) : Int))) := hs8
      have HB8 : Hid (Below B w w8) := HB7.out.trans hb8
      have HD8 : Hid (T.drop i8 = T1) := hd8
      have HN8 : Hid (n1 = L.length + p.cnt) := hn8
      obtain ⟨Q, hQ⟩ : ∃ Q, L ++ nodesP p L.length = Q := ⟨_, rfl⟩
      have HQ : Hid (L ++ nodesP p L.length = Q) := hQ
      have HQL : Hid (Q.length = n1) := by unfold Hid; rw [← hQ, List.length_append, nodes_len, hn8]
      rw [hQ] at HS8
      clear C hs8 hb8 hd8 hn8 hQ
      have C := s_deepB (o + 1) B g w8 T i8 Q 0 ((o + 1 : Nat) : Int) HS8.out rfl (by omega) (by omega)
      go_wp2_with fail
      refine C.mono ?_
      rintro e w9 ⟨rfl, hs9, hb9⟩
      have HS9 : Hid (StS B g w9 T i8 Q (0) ((o : Int))) := by unfold Hid; rw [← OI9.out]; exact hs9
      have HB9 : Hid (Below B w w9) := (HB8.out : Below B w w8).trans hb9
      clear C hs9 hb9
      by_cases h4 : n1 = 40
      · have E : Hid (unR 3 (.ok p T1 n1) = .err 6) := by unfold Hid unR; simp only [h4, if_true]
        have HQ4 : Hid (Q.length = 40) := HQL.out.trans h4
        clear h4
        have C := s_putM ⟨3, (n1 : Int) - 1, 0, 0, 0, 0, ⟨#[]⟩⟩ B g w9 T i8 Q 0 (o : Int) HS9.out rfl HQ4.out
        go_wp2_with fail
        refine C.mono ?_
        rintro e w10 ⟨rfl, hs10, hb10⟩
        have HS10 : Hid (StS B g w10 T i8 Q (6) ((o : Int))) := hs10
        have HB10 : Hid (Below B w w10) := (HB9.out : Below B w w9).trans hb10
        clear C hs10 hb10
        go_wp2
        go_ret
        rw [E.out]
        exact ⟨by decide, 0, i8, Q, rfl, HS10.out, HB10.out⟩
      · have E : Hid (unR 3 (.ok p T1 n1) = .ok (.una 3 p) T1 (n1 + 1)) := by unfold Hid unR; simp only [if_neg h4]
        have HQ4 : Hid (Q.length < 40) := by unfold Hid; rw [HQL.out]; omega
        clear h4
        have C := s_put ⟨3, (n1 : Int) - 1, 0, 0, 0, 0, ⟨#[]⟩⟩ B g w9 T i8 Q 0 (o : Int) HS9.out HQ4.out
        go_wp2_with fail
        refine C.mono ?_
        rintro e w10 ⟨rfl, hs10, hb10⟩
        have HS10 : Hid (StS B g w10 T i8 (Q ++ [⟨3, (n1 : Int) - 1, 0, 0, 0, 0, ⟨#[]⟩⟩]) (0) ((o : Int))) := hs10
        have HB10 : Hid (Below B w w10) := (HB9.out : Below B w w9).trans hb10
        clear C hs10 hb10
        go_wp2
        go_ret
        rw [E.out]
        have EN9 : Q ++ [(⟨3, (n1 : Int) - 1, 0, 0, 0, 0, ⟨#[]⟩⟩ : EN)] = L ++ nodesP (.una 3 p) L.length := by
          have q := HN8.out
          rw [← HQ.out, nodesP, nodes_len, ← List.append_assoc, q]
        exact ⟨i8, by rw [HQL.out, show (((n1 + 1 : Nat) : Int) - 1) = (n1 : Int) by omega]; rfl, HD8.out, by have q := HN8.out; simp only [PT.cnt]; omega, by rw [← EN9]; exact HS10.out, HB10.out⟩
  · have HH : Hid (nxt (T.drop i) ≠ wNot) := h1
    have HCC : Hid (SC 200 .cmp (T.drop i)) := hc
    have HP : Hid (Parses .cmp o (T.drop i) L.length r) := h2
    clear h hp h1 hc hs dd dn h2
    go_enter Tryz.func172, Tryz.ntmps172
    have C := s_takeN ⟨#[110, 111, 116]⟩ B g w T i L 0 (o : Int) HS0.out rfl HH.out
    go_wp2_with fail
    refine C.mono ?_
    rintro e w1 ⟨rfl, hs1, hb1⟩
    have HS1 : Hid (StS B g w1 T i L (0) ((o : Int))) := hs1
    have HB1 : Hid (Below B w w1) := (Below.refl _ _ : Below B w w).trans (hb1.mono (by have a1 := HS0.out.base; have a2 := HS0.out.lt; omega))
    clear C hs1 hb1
    have C := HCC.out B g w1 T i L o r HS1.out rfl ho HP.out
    cases r with
    | err c =>
      go_wp2_with fail
      refine C.mono ?_
      rintro e w2 ⟨hc, z2, i2, L2, rfl, hs2, hb2⟩
      have HC : Hid ((c == 0) = false) := hc
      have HS2 : Hid (StS B g w2 T i2 L2 c (o : Int)) := hs2
      have HB2 : Hid (Below B w w2) := HB1.out.trans hb2
      clear C hs2 hb2 hc
      go_wp2
      go_ret
      exact ⟨HC.out, z2, i2, L2, rfl, HS2.out, HB2.out⟩
    | ok p T1 n1 =>
      go_wp2_with fail
      refine C.mono ?_
      rintro e w2 ⟨i2, rfl, hd2, hn2, hs2, hb2⟩
      have HA : Hid (T.drop i2 = T1 ∧ n1 = L.length + p.cnt ∧ StS B g w2 T i2 (L ++ nodesP p L.length) 0 (o : Int)) := ⟨hd2, hn2, hs2⟩
      have HB2 : Hid (Below B w w2) := HB1.out.trans hb2
      clear C hs2 hb2 hd2 hn2
      go_wp2
      go_ret
      exact ⟨i2, rfl, HA.out.1, HA.out.2.1, HA.out.2.2, HB2.out⟩
theorem d_or' : DC 79 := d_or (d_and (d_not (d_cmp (d_sum (d_mul d_un)))))
theorem s_un' (T' : List ByteArray) (lor : ∀ T2, T2.length < T'.length → SC 79 (.ch .or) T2) (lun : ∀ T2, T2.length < T'.length → SC 247 .neg T2) : SC 247 .neg T' := by
  refine s_un T' d_or' lor lun ?_
  intro B g w T i L o r h hd ho hm hp
  subst hd
  exact s_unP B g w T i L o r h ho d_or' (fun hi => lor _ (by rw [List.length_drop, List.length_drop]; omega)) hm hp
theorem sc_all : ∀ (m : Nat) (T : List ByteArray), T.length ≤ m → SC 247 .neg T ∧ SC 241 (.ch .mul) T ∧ SC 224 (.ch .sum) T ∧ SC 200 .cmp T ∧ SC 172 .den T ∧ SC 139 (.ch .and) T ∧ SC 79 (.ch .or) T := by
  have dmul := d_mul d_un
  have dsum := d_sum dmul
  have dnot := d_not (d_cmp dsum)
  have dand := d_and dnot
  intro m
  induction m with
  | zero =>
    have lt : ∀ {T T' : List ByteArray}, T.length ≤ 0 → ¬ T'.length < T.length := fun h h2 => by omega
    have s2 : ∀ T : List ByteArray, T.length ≤ 0 → SC 247 .neg T := fun T h => s_un' T (fun T' h' => absurd h' (lt h)) fun T' h' => absurd h' (lt h)
    have s3 : ∀ T : List ByteArray, T.length ≤ 0 → SC 241 (.ch .mul) T := fun T h => s_mul T d_un fun T' h' => s2 T' (by omega)
    have s4 : ∀ T : List ByteArray, T.length ≤ 0 → SC 224 (.ch .sum) T := fun T h => s_sum T dmul fun T' h' => s3 T' (by omega)
    have s5 : ∀ T : List ByteArray, T.length ≤ 0 → SC 200 .cmp T := fun T h => s_cmp T fun T' h' => s4 T' (by omega)
    have s6 : ∀ T : List ByteArray, T.length ≤ 0 → SC 172 .den T := fun T h => s_not T dnot (s5 T h) fun T' h' => absurd h' (lt h)
    have s7 : ∀ T : List ByteArray, T.length ≤ 0 → SC 139 (.ch .and) T := fun T h => s_and T dnot fun T' h' => s6 T' (by omega)
    intro T h
    exact ⟨s2 T h, s3 T h, s4 T h, s5 T h, s6 T h, s7 T h, s_or T dand fun T' h' => s7 T' (by omega)⟩
  | succ m ih =>
    have s2 : ∀ T : List ByteArray, T.length ≤ m + 1 → SC 247 .neg T := fun T h => s_un' T (fun T' h' => (ih T' (by omega)).2.2.2.2.2.2) fun T' h' => (ih T' (by omega)).1
    have s3 : ∀ T : List ByteArray, T.length ≤ m + 1 → SC 241 (.ch .mul) T := fun T h => s_mul T d_un fun T' h' => s2 T' (by omega)
    have s4 : ∀ T : List ByteArray, T.length ≤ m + 1 → SC 224 (.ch .sum) T := fun T h => s_sum T dmul fun T' h' => s3 T' (by omega)
    have s5 : ∀ T : List ByteArray, T.length ≤ m + 1 → SC 200 .cmp T := fun T h => s_cmp T fun T' h' => s4 T' (by omega)
    have s6 : ∀ T : List ByteArray, T.length ≤ m + 1 → SC 172 .den T := fun T h => s_not T dnot (s5 T h) fun T' h' => (ih T' (by omega)).2.2.2.2.1
    have s7 : ∀ T : List ByteArray, T.length ≤ m + 1 → SC 139 (.ch .and) T := fun T h => s_and T dnot fun T' h' => s6 T' (by omega)
    intro T h
    exact ⟨s2 T h, s3 T h, s4 T h, s5 T h, s6 T h, s7 T h, s_or T dand fun T' h' => s7 T' (by omega)⟩
/-- The specification's parser of expressions, whole. -/
theorem sc_expr (T : List ByteArray) : SC 79 (.ch .or) T := (sc_all T.length T (Nat.le_refl _)).2.2.2.2.2.2

end Go.Proofs.YtbpfpjmjmkpjoaaGreatDoor
