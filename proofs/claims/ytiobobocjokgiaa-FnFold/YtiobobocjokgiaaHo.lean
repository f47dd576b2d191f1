/-
  The law of folding.
-/
import Derived.Test.YtiobobocjokgiaaHn
import Derived.Deep.RegionHeld3
import Derived.Deep.QuietTactic
import Derived.BigQuiet
namespace Go.Proofs.Ytiobobocjokgiaa
open Go Go.RowKit
attribute [local go_sem ↓] Go.wp_at_zero Go.wp_at_succ

set_option linter.unusedVariables false
set_option linter.unusedSimpArgs false
set_option maxRecDepth 100000 in
set_option maxHeartbeats 8000000 in
theorem law_FnFold (a : Option Addr) (na ca : Nat) (zs : List Int) (b : Option Addr) (nb cb : Nat) (ys : List Int) (w : World) (hr : RdV w a na (zs.map (Value.int .u8))) (hz : ∀ z ∈ zs, 0 ≤ z ∧ z < 256) (hm : na ≤ maxLen) (hr' : RdV w b nb (ys.map (Value.int .u8))) (hz' : ∀ z ∈ ys, 0 ≤ z ∧ z < 256) (hm' : nb ≤ maxLen) :
    Calls Try.prog 4 #[.slice a na ca, .slice b nb cb] w fun e w' => e = .returned (.bool true) ∧ Below w.heap.size w w' := by
  unfold maxLen at hm hm'
  by_cases g1 : 1048576 < na
  · clear hr hr' hz hz'
    go_enter Try.func4, Try.ntmps4
    go_wp2
    go_ret
    exact ⟨rfl, Below.refl _ _⟩
  by_cases g2 : 1048576 < nb
  · clear hr hr' hz hz'
    go_enter Try.func4, Try.ntmps4
    go_wp2
    go_ret
    exact ⟨rfl, Below.refl _ _⟩
  have C1 := c_changesOf a na ca zs w hr hz (by omega)
  have CA : Hid (∀ W, Below w.heap.size w W → Calls Try.prog 15 #[.slice b nb cb, .int .i64 0, .int .i64 2] W fun e w' => (∃ k : Nat, e = .returned (.int .i64 (k : Int)) ∧ k < 2) ∧ ∃ q, w' = W.drewN q) := fun W hW => c_atG b nb cb ys 0 2 W (hr'.below hW) hz' (by omega) (by omega) (by omega)
  clear hr hr' hz hz'
  go_enter Try.func4, Try.ntmps4
  go_wp2_with fail
  refine C1.mono ?_
  rintro e w1 ⟨⟨ar, cr, L, rfl, o1, hn8, hk⟩, hb⟩
  have B1 : Hid (Below w.heap.size w w1) := hb
  obtain ⟨n, hn⟩ : ∃ n, L.length = n := ⟨_, rfl⟩
  have HLn : Hid (L.length = n) := hn
  rw [hn] at o1 hn8 ⊢
  have O1 : Hid (w1.ownsRow w.heap.size 42 10 (.slice ar n cr) n (cellsC L)) := o1
  have D1 := CA.out w1 hb
  have HKK : Hid (∀ v ∈ L, chK v = true) := hk
  clear C1 hb o1 hn CA hk
  go_wp2_with fail
  refine D1.mono ?_
  rintro e w2 ⟨⟨cn, rfl, hcn⟩, qq, rfl⟩
  obtain ⟨w2, hw2⟩ : ∃ W, w1.drewN qq = W := ⟨_, rfl⟩
  rw [hw2]
  have B2 : Hid (Below w.heap.size w w2) := by unfold Hid; rw [← hw2]; exact below_drewN B1.out _
  have O2 : Hid (w2.ownsRow w.heap.size 42 10 (.slice ar n cr) n (cellsC L)) := by unfold Hid; rw [← hw2]; exact O1.out
  clear hw2 B1 O1 D1
  have hadd : IntKind.i64.wrap (1 + (cn : Int)) = 1 + (cn : Int) := by simp [IntKind.wrap_i64]; omega
  obtain ⟨tb, htb⟩ : ∃ tb : Int, 1 + (cn : Int) = tb := ⟨_, rfl⟩
  have ht3 : inB tb 1 3 = true := by rw [← htb]; simp [inB]; omega
  have SZL : ∀ v ∈ L, v.t.size ≤ maxLen ∧ v.z.size ≤ maxLen := fun v hv => chK_size (HKK.out v hv)
  have E0 : foC n L tb = 0 := by
    unfold foC chsB
    rw [if_neg (show ¬ 4096 < n by omega), decide_eq_true (show n ≤ 1000 by omega), List.all_eq_true.2 HKK.out, if_pos (show (true && true) = true from rfl), if_pos ht3]
  have E1 : foO n L tb = foldR tb L := by unfold foO; rw [if_pos E0]
  have hRn : (foldR tb L).length ≤ n := by rw [← E1]; exact foO_len n L tb HLn.out
  have hso := (fold_so tb L n (by have := HLn.out; omega)).1
  rw [List.take_of_length_le (by have := HLn.out; omega)] at hso
  have hla : ∀ x : Int, (la tb x L n = -1 ∧ findR (foldR tb L) x = none) ∨ (∃ j : Nat, j < n ∧ la tb x L n = (j : Int) ∧ findR (foldR tb L) x = if (L.getD j zeroC).g then none else some (rowC (L.getD j zeroC))) := fun x => by
    have := la_all tb x L n (by have := HLn.out; omega)
    rwa [List.take_of_length_le (by have := HLn.out; omega)] at this
  have CI : Hid (∀ W a' c', RdC W a' n L → Calls Try.prog 8 #[.slice a' n c', .int .i64 tb] W fun e w' => (∃ (a1 : Option Addr) (c1 : Nat), e = .returned (.tuple #[.slice a1 (foldR tb L).length c1, .int .i64 0]) ∧ w'.ownsRow W.heap.size 40 7 (.slice a1 (foldR tb L).length c1) (foldR tb L).length (cellsR (foldR tb L))) ∧ Below W.heap.size W w') := fun W a' c' h => by
    have := c_implFC a' n c' L tb W h (by omega) SZL
    unfold AnsF at this
    rw [E0, E1] at this
    exact this
  have CS : Hid (∀ W a' c', RdC W a' n L → Calls Try.prog 6 #[.slice a' n c', .int .i64 tb] W fun e w' => (∃ (a1 : Option Addr) (c1 : Nat), e = .returned (.tuple #[.slice a1 (foldR tb L).length c1, .int .i64 0]) ∧ w'.ownsRow W.heap.size 40 7 (.slice a1 (foldR tb L).length c1) (foldR tb L).length (cellsR (foldR tb L))) ∧ Below W.heap.size W w') := fun W a' c' h => by
    have := c_specFC a' n c' L tb W h (by omega) SZL
    unfold AnsF at this
    rw [E0, E1] at this
    exact this
  obtain ⟨R, hR⟩ : ∃ R, foldR tb L = R := ⟨_, rfl⟩
  rw [hR] at CI CS hRn hso hla
  have HSO : Hid (SoR R) := hso
  have HLA : Hid (∀ x : Int, (la tb x L n = -1 ∧ findR R x = none) ∨ (∃ j : Nat, j < n ∧ la tb x L n = (j : Int) ∧ findR R x = if (L.getD j zeroC).g then none else some (rowC (L.getD j zeroC)))) := hla
  obtain ⟨N, hN⟩ : ∃ N, R.length = N := ⟨_, rfl⟩
  have HN : Hid (R.length = N) := hN
  rw [hN] at CI CS hRn
  clear SZL E0 E1 hso hla hR hN HKK ht3
  have D2 := CI.out w2 ar cr (RdC.own O2.out)
  have D2S := CS
  clear CI CS
  go_wp2_with fail
  refine D2.mono ?_
  rintro e w3 ⟨⟨au, cu, rfl, ou⟩, hb⟩
  have B3 : Hid (Below w.heap.size w w3) := B2.out.trans (hb.mono B2.out.size)
  have O3 : Hid (w3.ownsRow w.heap.size 42 10 (.slice ar n cr) n (cellsC L)) := own_below O2.out hb
  have U3 : Hid (w3.ownsRow w2.heap.size 40 7 (.slice au N cu) N (cellsR R)) := ou
  clear D2 hb ou B2 O2 hadd
  have D3 := D2S.out w3 ar cr (RdC.own O3.out)
  clear D2S
  go_wp2_with fail
  refine D3.mono ?_
  rintro e w5 ⟨⟨aw, cw, rfl, ow⟩, hb⟩
  have B5 : Hid (Below w.heap.size w w5) := B3.out.trans (hb.mono B3.out.size)
  have R5 : Hid (RdC w5 ar n L) := RdC.own (own_below O3.out hb)
  have U5 : Hid (RdR w5 au N R) := RdR.own (own_below U3.out hb)
  have D5 := c_same au aw N cu cw R w5 U5.out (RdR.own ow) (by omega)
  clear D3 hb ow B3 O3 U3
  go_wp2_with fail
  refine D5.mono ?_
  rintro e w6 ⟨rfl, hb⟩
  have B6 : Hid (Below w.heap.size w w6) := B5.out.trans (hb.mono B5.out.size)
  have R6 : Hid (RdC w6 ar n L) := R5.out.below hb
  have U6 : Hid (RdR w6 au N R) := U5.out.below hb
  clear D5 hb B5 R5 U5
  go_wp2_with fail
  go_loopw [11] (fun i wr => ∃ k : Nat, k ≤ 6 ∧ i = .int .i64 k ∧ Hid (Below w6.heap.size w6 wr)) (fun i _ => 6 - (intOf i).toNat)
  case atStart => exact ⟨0, by omega, rfl, Below.refl _ _⟩
  case round =>
    obtain ⟨k, hk, rfl, BK⟩ := hrel
    rename World => wo
    by_cases hlt : k < 6
    · go_wp2_with fail
      rw [decide_eq_true (show (k : Int) < 6 by omega)]
      go_loopw [12, 13] (fun l i wr => ∃ j : Nat, j ≤ n ∧ i = .int .i64 j ∧ l = .int .i64 (la tb k L j) ∧ Hid (Below w6.heap.size w6 wr)) (fun _ i _ => n - (intOf i).toNat)
      case atStart => exact ⟨0, by omega, rfl, rfl, BK⟩
      case round =>
        obtain ⟨j, hj, rfl, rfl, BJ⟩ := hrel
        rename World => wi
        by_cases hjl : j < n
        · obtain ⟨bl, ol, eal, ll, cl1⟩ := R6.out.2 (by omega)
          subst eal
          obtain ⟨⟨vse, vtb, vi, va, vb, vt, vp, vq, vz, vg⟩, hv⟩ : ∃ v, v = L.getD j zeroC := ⟨_, rfl⟩
          obtain ⟨d0, d1, d2, d3, d4, d5, d6, d7, d8, d9⟩ := RdC.at cl1 hjl hv
          dsimp only at d0 d1 d2 d3 d4 d5 d6 d7 d8 d9
          have e0 : wi.cell? ⟨bl, ol + j * 10, none⟩ = some (.int .i64 vse) := by rw [BJ.out.cell (p := ⟨bl, ol + j * 10, none⟩) ll, d0]
          have e1 : wi.cell? ⟨bl, ol + j * 10 + 1, none⟩ = some (.int .i64 vtb) := by rw [BJ.out.cell (p := ⟨bl, ol + j * 10 + 1, none⟩) ll, d1]
          have e2 : wi.cell? ⟨bl, ol + j * 10 + 2, none⟩ = some (.int .i64 vi) := by rw [BJ.out.cell (p := ⟨bl, ol + j * 10 + 2, none⟩) ll, d2]
          have e3 : wi.cell? ⟨bl, ol + j * 10 + 3, none⟩ = some (.int .i64 va) := by rw [BJ.out.cell (p := ⟨bl, ol + j * 10 + 3, none⟩) ll, d3]
          have e4 : wi.cell? ⟨bl, ol + j * 10 + 4, none⟩ = some (.int .i64 vb) := by rw [BJ.out.cell (p := ⟨bl, ol + j * 10 + 4, none⟩) ll, d4]
          have e5 : wi.cell? ⟨bl, ol + j * 10 + 5, none⟩ = some (.string vt) := by rw [BJ.out.cell (p := ⟨bl, ol + j * 10 + 5, none⟩) ll, d5]
          have e6 : wi.cell? ⟨bl, ol + j * 10 + 6, none⟩ = some (.int .i64 vp) := by rw [BJ.out.cell (p := ⟨bl, ol + j * 10 + 6, none⟩) ll, d6]
          have e7 : wi.cell? ⟨bl, ol + j * 10 + 7, none⟩ = some (.int .i64 vq) := by rw [BJ.out.cell (p := ⟨bl, ol + j * 10 + 7, none⟩) ll, d7]
          have e8 : wi.cell? ⟨bl, ol + j * 10 + 8, none⟩ = some (.string vz) := by rw [BJ.out.cell (p := ⟨bl, ol + j * 10 + 8, none⟩) ll, d8]
          have e9 : wi.cell? ⟨bl, ol + j * 10 + 9, none⟩ = some (.bool vg) := by rw [BJ.out.cell (p := ⟨bl, ol + j * 10 + 9, none⟩) ll, d9]
          have HL1 : Hid (la tb k L (j + 1) = if vtb = tb ∧ vi = (k : Int) then (j : Int) else la tb k L j) := by
            unfold Hid
            show (if (L.getD j zeroC).tb = tb ∧ (L.getD j zeroC).i = (k : Int) then (j : Int) else la tb k L j) = _
            rw [← hv]
          generalize la tb k L j = lj at HL1 ⊢
          have g3 : (0 : Int) ≤ (j : Int) := by omega
          have g4 : (j : Int) < (n : Int) := by omega
          clear hv d0 d1 d2 d3 d4 d5 d6 d7 d8 d9 cl1
          by_cases h1 : vtb = tb
          · have c1 : (vtb == tb) = true := by simpa using h1
            by_cases h2 : vi = (k : Int)
            · have c2 : (vi == (k : Int)) = true := by simpa using h2
              have EL : Hid (la tb k L (j + 1) = (j : Int)) := by unfold Hid; rw [HL1.out, if_pos ⟨h1, h2⟩]
              clear h1 h2 HL1
              go_wp2
              go_roundw
              case rel => exact ⟨j + 1, by omega, by go_num, by rw [EL.out], BJ⟩
              case measure => simp [intOf]; omega
            · have c2 : (vi == (k : Int)) = false := by simpa using h2
              have EL : Hid (la tb k L (j + 1) = lj) := by unfold Hid; rw [HL1.out, if_neg (fun q => h2 q.2)]
              clear h1 h2 HL1
              go_wp2
              go_roundw
              case rel => exact ⟨j + 1, by omega, by go_num, by rw [EL.out], BJ⟩
              case measure => simp [intOf]; omega
          · have c1 : (vtb == tb) = false := by simpa using h1
            have EL : Hid (la tb k L (j + 1) = lj) := by unfold Hid; rw [HL1.out, if_neg (fun q => h1 q.1)]
            clear h1 HL1
            go_wp2
            go_roundw
            case rel => exact ⟨j + 1, by omega, by go_num, by rw [EL.out], BJ⟩
            case measure => simp [intOf]; omega
        · have e : n = j := by omega
          subst e
          clear hjl hj
          rcases HLA.out (k : Int) with ⟨hl1, hl2⟩ | ⟨j, hjn, hl1, hl2⟩
          · have HF : Hid (findR R (k : Int) = none) := hl2
            rw [hl1]
            clear hl1 hl2
            go_wp2_with fail
            go_loopw [14, 15] (fun f i wr => ∃ m : Nat, m ≤ N ∧ i = .int .i64 m ∧ f = .bool false ∧ Hid (Below w6.heap.size w6 wr)) (fun _ i _ => N - (intOf i).toNat)
            case atStart => exact ⟨0, by omega, rfl, rfl, BJ⟩
            case round =>
              obtain ⟨m, hm9, rfl, rfl, BM⟩ := hrel
              rename World => wm
              by_cases hml : m < N
              · obtain ⟨bu, ou, eau, lu, cu1⟩ := U6.out.2 (by omega)
                subst eau
                obtain ⟨⟨vi, va, vb, vt, vp, vq, vz⟩, hv⟩ : ∃ v, v = R.getD m zeroR := ⟨_, rfl⟩
                obtain ⟨x0, x1, x2, x3, x4, x5, x6⟩ := RdR.at cu1 hml hv
                dsimp only at x0 x1 x2 x3 x4 x5 x6
                have y0 : wm.cell? ⟨bu, ou + m * 7, none⟩ = some (.int .i64 vi) := by rw [BM.out.cell (p := ⟨bu, ou + m * 7, none⟩) lu, x0]
                have y1 : wm.cell? ⟨bu, ou + m * 7 + 1, none⟩ = some (.int .i64 va) := by rw [BM.out.cell (p := ⟨bu, ou + m * 7 + 1, none⟩) lu, x1]
                have y2 : wm.cell? ⟨bu, ou + m * 7 + 2, none⟩ = some (.int .i64 vb) := by rw [BM.out.cell (p := ⟨bu, ou + m * 7 + 2, none⟩) lu, x2]
                have y3 : wm.cell? ⟨bu, ou + m * 7 + 3, none⟩ = some (.string vt) := by rw [BM.out.cell (p := ⟨bu, ou + m * 7 + 3, none⟩) lu, x3]
                have y4 : wm.cell? ⟨bu, ou + m * 7 + 4, none⟩ = some (.int .i64 vp) := by rw [BM.out.cell (p := ⟨bu, ou + m * 7 + 4, none⟩) lu, x4]
                have y5 : wm.cell? ⟨bu, ou + m * 7 + 5, none⟩ = some (.int .i64 vq) := by rw [BM.out.cell (p := ⟨bu, ou + m * 7 + 5, none⟩) lu, x5]
                have y6 : wm.cell? ⟨bu, ou + m * 7 + 6, none⟩ = some (.string vz) := by rw [BM.out.cell (p := ⟨bu, ou + m * 7 + 6, none⟩) lu, x6]
                have hne : ¬ vi = (k : Int) := fun q => by
                  have := find_at HSO.out (show m < R.length by have := HN.out; omega)
                  rw [← hv] at this
                  dsimp only at this
                  rw [q, HF.out] at this
                  cases this
                have c1 : (vi == (k : Int)) = false := by simpa using hne
                have g3 : (0 : Int) ≤ (m : Int) := by omega
                have g4 : (m : Int) < (N : Int) := by omega
                clear hv x0 x1 x2 x3 x4 x5 x6 cu1 hne
                go_wp2
                go_roundw
                case rel => exact ⟨m + 1, by omega, by go_num, rfl, BM⟩
                case measure => simp [intOf]; omega
              · go_wp2
                go_roundw
                case rel => exact ⟨k + 1, by omega, by go_num, BM⟩
                case measure => simp [intOf]; omega
          · obtain ⟨bl, ol, eal, ll, cl1⟩ := R6.out.2 (by omega)
            subst eal
            obtain ⟨⟨use, utb, ui, ua, ub, ut, up, uq, uz, ug⟩, hu⟩ : ∃ v, v = L.getD j zeroC := ⟨_, rfl⟩
            obtain ⟨d0, d1, d2, d3, d4, d5, d6, d7, d8, d9⟩ := RdC.at cl1 hjn hu
            dsimp only at d0 d1 d2 d3 d4 d5 d6 d7 d8 d9
            rw [← hu] at hl2
            have HF : Hid (findR R (k : Int) = if ug then none else some ⟨ui, ua, ub, ut, up, uq, uz⟩) := hl2
            rw [hl1]
            clear hl1 hl2 hu cl1
            go_wp2_with fail
            go_loopw [14, 15] (fun f i wr => ∃ m : Nat, m ≤ N ∧ i = .int .i64 m ∧ f = .bool ((R.take m).any fun r => decide (r.i = (k : Int))) ∧ Hid (Below w6.heap.size w6 wr)) (fun _ i _ => N - (intOf i).toNat)
            case atStart => exact ⟨0, by omega, rfl, rfl, BJ⟩
            case round =>
              obtain ⟨m, hm9, rfl, rfl, BM⟩ := hrel
              rename World => wm
              have e0 : wm.cell? ⟨bl, ol + j * 10, none⟩ = some (.int .i64 use) := by rw [BM.out.cell (p := ⟨bl, ol + j * 10, none⟩) ll, d0]
              have e1 : wm.cell? ⟨bl, ol + j * 10 + 1, none⟩ = some (.int .i64 utb) := by rw [BM.out.cell (p := ⟨bl, ol + j * 10 + 1, none⟩) ll, d1]
              have e2 : wm.cell? ⟨bl, ol + j * 10 + 2, none⟩ = some (.int .i64 ui) := by rw [BM.out.cell (p := ⟨bl, ol + j * 10 + 2, none⟩) ll, d2]
              have e3 : wm.cell? ⟨bl, ol + j * 10 + 3, none⟩ = some (.int .i64 ua) := by rw [BM.out.cell (p := ⟨bl, ol + j * 10 + 3, none⟩) ll, d3]
              have e4 : wm.cell? ⟨bl, ol + j * 10 + 4, none⟩ = some (.int .i64 ub) := by rw [BM.out.cell (p := ⟨bl, ol + j * 10 + 4, none⟩) ll, d4]
              have e5 : wm.cell? ⟨bl, ol + j * 10 + 5, none⟩ = some (.string ut) := by rw [BM.out.cell (p := ⟨bl, ol + j * 10 + 5, none⟩) ll, d5]
              have e6 : wm.cell? ⟨bl, ol + j * 10 + 6, none⟩ = some (.int .i64 up) := by rw [BM.out.cell (p := ⟨bl, ol + j * 10 + 6, none⟩) ll, d6]
              have e7 : wm.cell? ⟨bl, ol + j * 10 + 7, none⟩ = some (.int .i64 uq) := by rw [BM.out.cell (p := ⟨bl, ol + j * 10 + 7, none⟩) ll, d7]
              have e8 : wm.cell? ⟨bl, ol + j * 10 + 8, none⟩ = some (.string uz) := by rw [BM.out.cell (p := ⟨bl, ol + j * 10 + 8, none⟩) ll, d8]
              have e9 : wm.cell? ⟨bl, ol + j * 10 + 9, none⟩ = some (.bool ug) := by rw [BM.out.cell (p := ⟨bl, ol + j * 10 + 9, none⟩) ll, d9]
              by_cases hml : m < N
              · obtain ⟨bu, ou, eau, lu, cu1⟩ := U6.out.2 (by omega)
                subst eau
                obtain ⟨⟨vi, va, vb, vt, vp, vq, vz⟩, hv⟩ : ∃ v, v = R.getD m zeroR := ⟨_, rfl⟩
                obtain ⟨x0, x1, x2, x3, x4, x5, x6⟩ := RdR.at cu1 hml hv
                dsimp only at x0 x1 x2 x3 x4 x5 x6
                have y0 : wm.cell? ⟨bu, ou + m * 7, none⟩ = some (.int .i64 vi) := by rw [BM.out.cell (p := ⟨bu, ou + m * 7, none⟩) lu, x0]
                have y1 : wm.cell? ⟨bu, ou + m * 7 + 1, none⟩ = some (.int .i64 va) := by rw [BM.out.cell (p := ⟨bu, ou + m * 7 + 1, none⟩) lu, x1]
                have y2 : wm.cell? ⟨bu, ou + m * 7 + 2, none⟩ = some (.int .i64 vb) := by rw [BM.out.cell (p := ⟨bu, ou + m * 7 + 2, none⟩) lu, x2]
                have y3 : wm.cell? ⟨bu, ou + m * 7 + 3, none⟩ = some (.string vt) := by rw [BM.out.cell (p := ⟨bu, ou + m * 7 + 3, none⟩) lu, x3]
                have y4 : wm.cell? ⟨bu, ou + m * 7 + 4, none⟩ = some (.int .i64 vp) := by rw [BM.out.cell (p := ⟨bu, ou + m * 7 + 4, none⟩) lu, x4]
                have y5 : wm.cell? ⟨bu, ou + m * 7 + 5, none⟩ = some (.int .i64 vq) := by rw [BM.out.cell (p := ⟨bu, ou + m * 7 + 5, none⟩) lu, x5]
                have y6 : wm.cell? ⟨bu, ou + m * 7 + 6, none⟩ = some (.string vz) := by rw [BM.out.cell (p := ⟨bu, ou + m * 7 + 6, none⟩) lu, x6]
                have HA : Hid (((R.take (m + 1)).any fun r => decide (r.i = (k : Int))) = (((R.take m).any fun r => decide (r.i = (k : Int))) || decide (vi = (k : Int)))) := by
                  unfold Hid
                  have hm' : m < R.length := by have := HN.out; omega
                  rw [List.take_add_one, List.any_append, List.getElem?_eq_getElem hm']
                  rw [List.getD_eq_getElem?_getD, List.getElem?_eq_getElem hm'] at hv
                  simp only [Option.getD_some] at hv
                  simp only [Option.toList_some, List.any_cons, List.any_nil, Bool.or_false, ← hv]
                have g3 : (0 : Int) ≤ (m : Int) := by omega
                have g4 : (m : Int) < (N : Int) := by omega
                generalize ((R.take m).any fun r => decide (r.i = (k : Int))) = fb at HA ⊢
                by_cases h1 : vi = (k : Int)
                · have c1 : (vi == (k : Int)) = true := by simpa using h1
                  have hfa := find_at HSO.out (show m < R.length by have := HN.out; omega)
                  rw [← hv] at hfa
                  dsimp only at hfa
                  rw [h1, HF.out] at hfa
                  have hE : ug = false ∧ (⟨ui, ua, ub, ut, up, uq, uz⟩ : RW) = ⟨(k : Int), va, vb, vt, vp, vq, vz⟩ := by
                    cases ug
                    · exact ⟨rfl, Option.some.inj hfa⟩
                    · cases hfa
                  have HA2 : Hid (((R.take (m + 1)).any fun r => decide (r.i = (k : Int))) = true) := by unfold Hid; rw [HA.out, decide_eq_true h1, Bool.or_true]
                  obtain ⟨_, hE2⟩ := hE
                  simp only [RW.mk.injEq] at hE2
                  obtain ⟨z0, z1, z2, z3, z4, z5, z6⟩ := hE2
                  subst h1
                  subst z0 z1 z2 z3 z4 z5 z6
                  have HE : ∀ W, (Op.equalIn 10000 40 (.agg #[.int .i64 (k : Int), .int .i64 ua, .int .i64 ub, .string ut, .int .i64 up, .int .i64 uq, .string uz]) (.agg #[.int .i64 (k : Int), .int .i64 ua, .int .i64 ub, .string ut, .int .i64 up, .int .i64 uq, .string uz])).run Try.prog W = .ok true W := fun W => by rw [eqR2, rowEq_self]
                  have gd : decide ((j : Int) < 0) = false := decide_eq_false (by omega)
                  have g5 : (0 : Int) ≤ (j : Int) := by omega
                  have g6 : (j : Int) < (n : Int) := by omega
                  have g7 : ¬ ((j : Int) < 0) := by omega
                  have p0 := fun r : Out wm => q_cell y0 r
                  have p1 := fun r : Out wm => q_cell y1 r
                  have p2 := fun r : Out wm => q_cell y2 r
                  have p3 := fun r : Out wm => q_cell y3 r
                  have p4 := fun r : Out wm => q_cell y4 r
                  have p5 := fun r : Out wm => q_cell y5 r
                  have p6 := fun r : Out wm => q_cell y6 r
                  have q2 := fun r : Out wm => q_cell e2 r
                  have q3 := fun r : Out wm => q_cell e3 r
                  have q4 := fun r : Out wm => q_cell e4 r
                  have q5 := fun r : Out wm => q_cell e5 r
                  have q6 := fun r : Out wm => q_cell e6 r
                  have q7 := fun r : Out wm => q_cell e7 r
                  have q8 := fun r : Out wm => q_cell e8 r
                  clear hv x0 x1 x2 x3 x4 x5 x6 cu1 hfa HA
                  go_wp2_with fail
                  haveI nonE := Out.some wm
                  refine q_begin (by kernel_rfl) (by kernel_rfl) ?_
                  repeat (go_big_quiet_step (fail))
                  refine wpQuiet_nil ?_
                  rintro w7 ⟨⟨y', hb7⟩, hy⟩
                  have hy' : w7 = y' := hy
                  clear hy
                  subst hy'
                  have BM7 : Hid (Below w6.heap.size w6 w7) := BM.out.trans (hb7.mono BM.out.size)
                  clear hb7 p0 p1 p2 p3 p4 p5 p6 q2 q3 q4 q5 q6 q7 q8
                  go_wp2
                  go_roundw
                  case rel => exact ⟨m + 1, by omega, by go_num, by rw [HA2.out], BM7⟩
                  case measure => simp [intOf]; omega
                · have c1 : (vi == (k : Int)) = false := by simpa using h1
                  have HA2 : Hid (((R.take (m + 1)).any fun r => decide (r.i = (k : Int))) = fb) := by unfold Hid; rw [HA.out, decide_eq_false h1, Bool.or_false]
                  clear hv x0 x1 x2 x3 x4 x5 x6 cu1 HA h1
                  go_wp2
                  go_roundw
                  case rel => exact ⟨m + 1, by omega, by go_num, by rw [HA2.out], BM⟩
                  case measure => simp [intOf]; omega
              · have hfull : ((R.take m).any fun r => decide (r.i = (k : Int))) = !ug := by
                  rw [List.take_of_length_le (by have := HN.out; omega), any_find, HF.out]
                  cases ug <;> rfl
                rw [hfull]
                have g5 : (0 : Int) ≤ (j : Int) := by omega
                have g6 : (j : Int) < (n : Int) := by omega
                clear hfull
                cases ug
                · go_wp2
                  go_roundw
                  case rel => exact ⟨k + 1, by omega, by go_num, BM⟩
                  case measure => simp [intOf]; omega
                · go_wp2
                  go_roundw
                  case rel => exact ⟨k + 1, by omega, by go_num, BM⟩
                  case measure => simp [intOf]; omega
    · have e : k = 6 := by omega
      subst e
      have BF : Hid (Below w.heap.size w wo) := B6.out.trans (BK.out.mono B6.out.size)
      go_wp2
      go_ret
      exact ⟨rfl, BF.out⟩

end Go.Proofs.Ytiobobocjokgiaa
