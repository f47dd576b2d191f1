/-
  The law of sorting.
-/
import Derived.Test.YtlapmidiakaimaaSw
import Derived.Test.YtlapmidiakaimaaSm
import Derived.Deep.RegionHeld3
import Derived.Deep.QuietTactic
import Derived.BigQuiet
namespace Go.Proofs.Ytlapmidiakaimaa
open Go Go.RowKit
attribute [local go_sem ↓] Go.wp_at_zero Go.wp_at_succ

set_option linter.unusedVariables false
set_option linter.unusedSimpArgs false
set_option maxRecDepth 100000 in
set_option maxHeartbeats 8000000 in
theorem c_rowsOf (a : Option Addr) (n c : Nat) (zs : List Int) (w : World) (hr : RdV w a n (zs.map (Value.int .u8))) (hz : ∀ z ∈ zs, 0 ≤ z ∧ z < 256) (hn : n ≤ 1048576) :
    Calls Try.prog 20 #[.slice a n c] w fun e w' => (∃ (a' : Option Addr) (c' : Nat) (L : List RW), e = .returned (.slice a' L.length c') ∧ w'.ownsRow w.heap.size 35 7 (.slice a' L.length c') L.length (cellsR L) ∧ RowsTo 6 L) ∧ Below w.heap.size w w' := by
  have C := c_source a n c zs w hr hz hn
  clear hr hz
  go_enter Try.func20, Try.ntmps20
  go_wp2_with fail
  refine C.mono ?_
  rintro e w1 ⟨rfl, hd, hb⟩
  have C2 := c_rowList w w1 w.heap.size a n c zs hd
  have lg : w.heap.size < w1.heap.size := hd.src.lt
  clear C hd
  go_wp2_with fail
  refine C2.mono ?_
  rintro e w2 ⟨⟨a2, c2, L, rfl, o2, r2⟩, hi⟩
  have O2 : Hid (w2.ownsRow w.heap.size 35 7 (.slice a2 L.length c2) L.length (cellsR L)) := World.ownsRow.mono o2 (by omega)
  have B2 : Hid (Below w.heap.size w w2) := hb.trans (hi.below (Nat.le_refl _) hb.size)
  have R2 : Hid (RowsTo 6 L) := r2
  clear C2 o2 hi hb r2
  go_wp2
  go_ret
  exact ⟨⟨a2, c2, L, rfl, O2.out, R2.out⟩, B2.out⟩
set_option maxRecDepth 100000 in
set_option maxHeartbeats 8000000 in
theorem c_same (a a' : Option Addr) (n cap cap' : Nat) (vs : List RW) (w : World) (hr : RdR w a n vs) (hr' : RdR w a' n vs) (hn : n ≤ 1048576) :
    Calls Try.prog 22 #[.slice a n cap, .slice a' n cap'] w fun e w' => e = .returned (.bool true) ∧ Below w.heap.size w w' := by
  obtain ⟨hl, hcs⟩ := hr
  obtain ⟨hl', hcs'⟩ := hr'
  go_enter Try.func22, Try.ntmps22
  go_wp2
  go_loopw [5] (fun i wr => ∃ k : Nat, k ≤ n ∧ i = .int .i64 k ∧ Below w.heap.size w wr) (fun i _ => n - (intOf i).toNat)
  case atStart => exact ⟨0, by omega, rfl, Below.refl _ _⟩
  case round =>
    obtain ⟨k, hk, rfl, hb⟩ := hrel
    by_cases hlt : k < n
    · obtain ⟨b, off, rfl, hbl, hc⟩ := hcs (by omega)
      obtain ⟨b', off', rfl, hbl', hc'⟩ := hcs' (by omega)
      obtain ⟨⟨vi, va, vb, vt, vp, vq, vz⟩, hv⟩ : ∃ v, v = vs.getD k zeroR := ⟨_, rfl⟩
      obtain ⟨d0, d1, d2, d3, d4, d5, d6⟩ := RdR.at hc hlt hv
      obtain ⟨x0, x1, x2, x3, x4, x5, x6⟩ := RdR.at hc' hlt hv
      dsimp only at d0 d1 d2 d3 d4 d5 d6 x0 x1 x2 x3 x4 x5 x6
      have e0 : wr.cell? ⟨b, off + k * 7, none⟩ = some (.int .i64 vi) := by rw [hb.cell (p := ⟨b, off + k * 7, none⟩) hbl, d0]
      have e1 : wr.cell? ⟨b, off + k * 7 + 1, none⟩ = some (.int .i64 va) := by rw [hb.cell (p := ⟨b, off + k * 7 + 1, none⟩) hbl, d1]
      have e2 : wr.cell? ⟨b, off + k * 7 + 2, none⟩ = some (.int .i64 vb) := by rw [hb.cell (p := ⟨b, off + k * 7 + 2, none⟩) hbl, d2]
      have e3 : wr.cell? ⟨b, off + k * 7 + 3, none⟩ = some (.string vt) := by rw [hb.cell (p := ⟨b, off + k * 7 + 3, none⟩) hbl, d3]
      have e4 : wr.cell? ⟨b, off + k * 7 + 4, none⟩ = some (.int .i64 vp) := by rw [hb.cell (p := ⟨b, off + k * 7 + 4, none⟩) hbl, d4]
      have e5 : wr.cell? ⟨b, off + k * 7 + 5, none⟩ = some (.int .i64 vq) := by rw [hb.cell (p := ⟨b, off + k * 7 + 5, none⟩) hbl, d5]
      have e6 : wr.cell? ⟨b, off + k * 7 + 6, none⟩ = some (.string vz) := by rw [hb.cell (p := ⟨b, off + k * 7 + 6, none⟩) hbl, d6]
      have y0 : wr.cell? ⟨b', off' + k * 7, none⟩ = some (.int .i64 vi) := by rw [hb.cell (p := ⟨b', off' + k * 7, none⟩) hbl', x0]
      have y1 : wr.cell? ⟨b', off' + k * 7 + 1, none⟩ = some (.int .i64 va) := by rw [hb.cell (p := ⟨b', off' + k * 7 + 1, none⟩) hbl', x1]
      have y2 : wr.cell? ⟨b', off' + k * 7 + 2, none⟩ = some (.int .i64 vb) := by rw [hb.cell (p := ⟨b', off' + k * 7 + 2, none⟩) hbl', x2]
      have y3 : wr.cell? ⟨b', off' + k * 7 + 3, none⟩ = some (.string vt) := by rw [hb.cell (p := ⟨b', off' + k * 7 + 3, none⟩) hbl', x3]
      have y4 : wr.cell? ⟨b', off' + k * 7 + 4, none⟩ = some (.int .i64 vp) := by rw [hb.cell (p := ⟨b', off' + k * 7 + 4, none⟩) hbl', x4]
      have y5 : wr.cell? ⟨b', off' + k * 7 + 5, none⟩ = some (.int .i64 vq) := by rw [hb.cell (p := ⟨b', off' + k * 7 + 5, none⟩) hbl', x5]
      have y6 : wr.cell? ⟨b', off' + k * 7 + 6, none⟩ = some (.string vz) := by rw [hb.cell (p := ⟨b', off' + k * 7 + 6, none⟩) hbl', x6]
      have q0 := fun r : Out wr => q_cell e0 r
      have p0 := fun r : Out wr => q_cell y0 r
      have q1 := fun r : Out wr => q_cell e1 r
      have p1 := fun r : Out wr => q_cell y1 r
      have q2 := fun r : Out wr => q_cell e2 r
      have p2 := fun r : Out wr => q_cell y2 r
      have q3 := fun r : Out wr => q_cell e3 r
      have p3 := fun r : Out wr => q_cell y3 r
      have q4 := fun r : Out wr => q_cell e4 r
      have p4 := fun r : Out wr => q_cell y4 r
      have q5 := fun r : Out wr => q_cell e5 r
      have p5 := fun r : Out wr => q_cell y5 r
      have q6 := fun r : Out wr => q_cell e6 r
      have p6 := fun r : Out wr => q_cell y6 r
      have HE : ∀ W, (Op.equalIn 10000 35 (.agg #[.int .i64 vi, .int .i64 va, .int .i64 vb, .string vt, .int .i64 vp, .int .i64 vq, .string vz]) (.agg #[.int .i64 vi, .int .i64 va, .int .i64 vb, .string vt, .int .i64 vp, .int .i64 vq, .string vz])).run Try.prog W = .ok true W := fun W => by rw [eqR2, rowEq_self]
      have g1 : (0 : Int) ≤ (k : Int) := by omega
      have g2 : (k : Int) < (n : Int) := by omega
      have B : Hid (Below w.heap.size w wr) := hb
      clear hc hc' hcs hcs' hv d0 d1 d2 d3 d4 d5 d6 x0 x1 x2 x3 x4 x5 x6 e0 e1 e2 e3 e4 e5 e6 y0 y1 y2 y3 y4 y5 y6 hb
      go_wp2_with fail
      haveI nonE := Out.some wr
      refine q_begin (by kernel_rfl) (by kernel_rfl) ?_
      repeat (go_big_quiet_step (fail))
      refine wpQuiet_nil ?_
      rintro w3 ⟨⟨y', hb3⟩, hy⟩
      have hy' : w3 = y' := hy
      clear hy
      subst hy'
      have B3 : Hid (Below w.heap.size w w3) := B.out.trans (hb3.mono B.out.size)
      clear hb3 q0 q1 q2 q3 q4 q5 q6 p0 p1 p2 p3 p4 p5 p6 B
      go_wp2
      go_roundw
      case rel => exact ⟨k + 1, by omega, by go_num, B3.out⟩
      case measure => simp [intOf]; omega
    · have e : k = n := by omega
      subst e
      go_wp2
      go_ret
      exact ⟨rfl, hb⟩
set_option maxRecDepth 100000 in
set_option maxHeartbeats 8000000 in
theorem c_cmpVals (k n : Int) (t : ByteArray) (k' n' : Int) (t' : ByteArray) (w : World) (h1 : valB k n t = true) (h2 : valB k' n' t' = true) :
    Calls Try.prog 23 #[.agg #[.int .i64 k, .int .i64 n, .string t], .agg #[.int .i64 k', .int .i64 n', .string t']] w fun e w' => e = .returned (.tuple #[.int .i64 (cmpV k n t k' n' t'), .int .i64 0]) ∧ Below w.heap.size w w' := by
  obtain ⟨V, hV⟩ : ∃ V, (w.alloc (.cells #[.int .i64 k, .int .i64 n, .string t] 33)).alloc (.cells #[.int .i64 k', .int .i64 n', .string t'] 33) = V := ⟨_, rfl⟩
  have BV : Hid (Below w.heap.size w V) := by unfold Hid; rw [← hV]; exact ((Below.refl _ _).alloc (Nat.le_refl _) _).alloc (by simp) _
  have X : Hid (Box V w.heap.size 33 #[.int .i64 k, .int .i64 n, .string t]) := by unfold Hid; rw [← hV]; exact (Box.new _ _ _).alloc _
  have Y : Hid (Box V (w.heap.size + 1) 33 #[.int .i64 k', .int .i64 n', .string t']) := by unfold Hid; rw [← hV]; exact Box.new2 _ _ _ _
  have C1 : Hid (∀ W : World, Calls Try.prog 57 #[.agg #[.int .i64 k, .int .i64 n, .string t]] W fun e w' => e = .returned (.bool true) ∧ Below W.heap.size W w') := fun W => by rw [← h1]; exact c_implOK k n t W (by have := valB_size h1; unfold maxLen; omega)
  have C2 : Hid (∀ W : World, Calls Try.prog 57 #[.agg #[.int .i64 k', .int .i64 n', .string t']] W fun e w' => e = .returned (.bool true) ∧ Below W.heap.size W w') := fun W => by rw [← h2]; exact c_implOK k' n' t' W (by have := valB_size h2; unfold maxLen; omega)
  have C3 : Hid (∀ W : World, Calls Try.prog 58 #[.agg #[.int .i64 k, .int .i64 n, .string t], .agg #[.int .i64 k', .int .i64 n', .string t']] W fun e w' => e = .returned (.int .i64 (cmpV k n t k' n' t')) ∧ Below W.heap.size W w') := fun W => c_cmpR _ _ _ _ _ _ W
  obtain ⟨r, hr⟩ : ∃ r, cmpV k n t k' n' t' = r := ⟨_, rfl⟩
  rw [hr] at C3 ⊢
  clear hr h1 h2
  have x0 := X.out.cell 0
  have x1 := X.out.cell 1
  have x2 := X.out.cell 2
  simp only [List.getElem?_toArray, List.getElem?_cons_succ, List.getElem?_cons_zero] at x0 x1 x2
  have y0 := Y.out.cell 0
  have y1 := Y.out.cell 1
  have y2 := Y.out.cell 2
  simp only [List.getElem?_toArray, List.getElem?_cons_succ, List.getElem?_cons_zero] at y0 y1 y2
  go_enter Try.func23, Try.ntmps23
  go_wp2_with fail
  refine (C1.out _).mono ?_
  rintro e W1 ⟨rfl, hb⟩
  have BW1 : Hid (Below w.heap.size w W1) := BV.out.trans (hb.mono BV.out.size)
  have XW1 : Hid (Box W1 w.heap.size 33 #[.int .i64 k, .int .i64 n, .string t]) := X.out.belowS hb
  have YW1 : Hid (Box W1 (w.heap.size + 1) 33 #[.int .i64 k', .int .i64 n', .string t']) := Y.out.belowS hb
  clear hb x0 x1 x2 y0 y1 y2 hV
  have x0 := XW1.out.cell 0
  have x1 := XW1.out.cell 1
  have x2 := XW1.out.cell 2
  simp only [List.getElem?_toArray, List.getElem?_cons_succ, List.getElem?_cons_zero] at x0 x1 x2
  have y0 := YW1.out.cell 0
  have y1 := YW1.out.cell 1
  have y2 := YW1.out.cell 2
  simp only [List.getElem?_toArray, List.getElem?_cons_succ, List.getElem?_cons_zero] at y0 y1 y2
  go_wp2_with fail
  refine (C2.out _).mono ?_
  rintro e W2 ⟨rfl, hb⟩
  have BW2 : Hid (Below w.heap.size w W2) := BW1.out.trans (hb.mono BW1.out.size)
  have XW2 : Hid (Box W2 w.heap.size 33 #[.int .i64 k, .int .i64 n, .string t]) := XW1.out.belowS hb
  have YW2 : Hid (Box W2 (w.heap.size + 1) 33 #[.int .i64 k', .int .i64 n', .string t']) := YW1.out.belowS hb
  clear hb x0 x1 x2 y0 y1 y2 
  have x0 := XW2.out.cell 0
  have x1 := XW2.out.cell 1
  have x2 := XW2.out.cell 2
  simp only [List.getElem?_toArray, List.getElem?_cons_succ, List.getElem?_cons_zero] at x0 x1 x2
  have y0 := YW2.out.cell 0
  have y1 := YW2.out.cell 1
  have y2 := YW2.out.cell 2
  simp only [List.getElem?_toArray, List.getElem?_cons_succ, List.getElem?_cons_zero] at y0 y1 y2
  go_wp2_with fail
  refine (C3.out _).mono ?_
  rintro e W3 ⟨rfl, hb⟩
  have BW3 : Hid (Below w.heap.size w W3) := BW2.out.trans (hb.mono BW2.out.size)
  have XW3 : Hid (Box W3 w.heap.size 33 #[.int .i64 k, .int .i64 n, .string t]) := XW2.out.belowS hb
  have YW3 : Hid (Box W3 (w.heap.size + 1) 33 #[.int .i64 k', .int .i64 n', .string t']) := YW2.out.belowS hb
  clear hb x0 x1 x2 y0 y1 y2 
  go_wp2
  go_ret2
  exact ⟨rfl, BW3.out⟩
set_option maxRecDepth 100000 in
set_option maxHeartbeats 8000000 in
theorem law_FnSort (a : Option Addr) (na ca : Nat) (zs : List Int) (b : Option Addr) (nb cb : Nat) (ys : List Int) (w : World) (hr : RdV w a na (zs.map (Value.int .u8))) (hz : ∀ z ∈ zs, 0 ≤ z ∧ z < 256) (hm : na ≤ maxLen) (hr' : RdV w b nb (ys.map (Value.int .u8))) (hz' : ∀ z ∈ ys, 0 ≤ z ∧ z < 256) (hm' : nb ≤ maxLen) :
    Calls Try.prog 5 #[.slice a na ca, .slice b nb cb] w fun e w' => e = .returned (.bool true) ∧ Below w.heap.size w w' := by
  unfold maxLen at hm hm'
  by_cases g1 : 1048576 < na
  · clear hr hr' hz hz'
    go_enter Try.func5, Try.ntmps5
    go_wp2
    go_ret
    exact ⟨rfl, Below.refl _ _⟩
  by_cases g2 : 1048576 < nb
  · clear hr hr' hz hz'
    go_enter Try.func5, Try.ntmps5
    go_wp2
    go_ret
    exact ⟨rfl, Below.refl _ _⟩
  have C1 := c_rowsOf a na ca zs w hr hz (by omega)
  have CA : Hid (∀ W, Below w.heap.size w W → Calls Try.prog 21 #[.slice b nb cb, .int .i64 0, .int .i64 3] W fun e w' => (∃ k : Nat, e = .returned (.int .i64 (k : Int)) ∧ k < 3) ∧ ∃ q, w' = W.drewN q) := fun W hW => c_atG b nb cb ys 0 3 W (hr'.below hW) hz' (by omega) (by omega) (by omega)
  clear hr hr' hz hz'
  go_enter Try.func5, Try.ntmps5
  go_wp2_with fail
  refine C1.mono ?_
  rintro e w1 ⟨⟨ar, cr, L, rfl, o1, rt⟩, hb⟩
  have B1 : Hid (Below w.heap.size w w1) := hb
  have HL : Hid (RowsTo 6 L) := rt
  obtain ⟨n, hn⟩ : ∃ n, L.length = n := ⟨_, rfl⟩
  have hn6 : n ≤ 6 := by have := rt.len; omega
  have HLn : Hid (L.length = n) := hn
  rw [hn] at o1 ⊢
  have O1 : Hid (w1.ownsRow w.heap.size 35 7 (.slice ar n cr) n (cellsR L)) := o1
  have D1 := CA.out w1 hb
  clear C1 hb rt o1 hn CA
  go_wp2_with fail
  refine D1.mono ?_
  rintro e w2 ⟨⟨cn, rfl, hcn⟩, qq, rfl⟩
  obtain ⟨w2, hw2⟩ : ∃ W, w1.drewN qq = W := ⟨_, rfl⟩
  rw [hw2]
  have B2 : Hid (Below w.heap.size w w2) := by unfold Hid; rw [← hw2]; exact below_drewN B1.out _
  have O2 : Hid (w2.ownsRow w.heap.size 35 7 (.slice ar n cr) n (cellsR L)) := by unfold Hid; rw [← hw2]; exact O1.out
  clear hw2 B1 O1 D1
  obtain ⟨c, hc⟩ : ∃ c : Int, (cn : Int) = c := ⟨_, rfl⟩
  have hc2 : inB c 0 2 = true := by rw [← hc]; simp [inB]; omega
  rw [hc]
  clear hc hcn
  have HS : Hid (∀ v ∈ L, v.t.size ≤ maxLen ∧ v.z.size ≤ maxLen) := fun v hv => rowK_size (areB_all L 0 HL.out.are v hv)
  have E0 : Hid (sortC n L c = 0) := by
    unfold Hid sortC fltR
    rw [if_neg (show ¬ 4096 < n by omega), if_neg (show ¬ 100 < n by omega), if_pos HL.out.are, if_pos rfl, if_pos hc2]
  have EN : Hid (sortN n L c = n) := by unfold Hid sortN; rw [if_pos E0.out]
  have EO : Hid (∀ d, sortO n L c d = sortR (ordF c d) L) := fun d => by unfold sortO; rw [if_pos E0.out]
  have CI : Hid (∀ W a' c' d, RdR W a' n L → Calls Try.prog 16 #[.slice a' n c', .int .i64 c, .bool d] W fun e w' => (∃ (a1 : Option Addr) (c1 : Nat), e = .returned (.tuple #[.slice a1 n c1, .int .i64 0]) ∧ w'.ownsRow W.heap.size 35 7 (.slice a1 n c1) n (cellsR (sortR (ordF c d) L))) ∧ Below W.heap.size W w') := fun W a' c' d h => by
    have := c_implSR a' n c' L c d W h (by omega) HS.out
    unfold AnsR at this
    rw [E0.out, EN.out, EO.out] at this
    exact this
  have CS : Hid (∀ W a' c' d, RdR W a' n L → Calls Try.prog 14 #[.slice a' n c', .int .i64 c, .bool d] W fun e w' => (∃ (a1 : Option Addr) (c1 : Nat), e = .returned (.tuple #[.slice a1 n c1, .int .i64 0]) ∧ w'.ownsRow W.heap.size 35 7 (.slice a1 n c1) n (cellsR (sortR (ordF c d) L))) ∧ Below W.heap.size W w') := fun W a' c' d h => by
    have := c_specSR a' n c' L c d W h (by omega) HS.out
    unfold AnsR at this
    rw [E0.out, EN.out, EO.out] at this
    exact this
  obtain ⟨U, hU⟩ : ∃ U, sortR (ordF c false) L = U := ⟨_, rfl⟩
  obtain ⟨s1, s2, s3⟩ := sort_all c L HL.out.are
  rw [hU] at s1 s2 s3
  have hUl : U.length = n := by rw [← hU, sortR_len]; exact HLn.out
  have HD : Hid (∀ k, k < n → (sortR (ordF c true) L).getD (n - 1 - k) zeroR = U.getD k zeroR) := fun k hk => by
    rw [s1]
    simp only [List.getD_eq_getElem?_getD]
    rw [List.getElem?_reverse (by omega), hUl, show n - 1 - (n - 1 - k) = k by omega]
  have HM : Hid (∀ k, k < n → ∃ j, j < n ∧ L.getD j zeroR = U.getD k zeroR) := fun k hk => by
    have hm := (s3 _).1 (getD_mem (out := U) (k := k) (by omega))
    obtain ⟨j, hj, e⟩ := List.getElem_of_mem hm
    exact ⟨j, by have := HLn.out; omega, by rw [← e, List.getD_eq_getElem?_getD, List.getElem?_eq_getElem hj]; rfl⟩
  have HV : Hid (∀ k, k < n → rowK (U.getD k zeroR) = true) := fun k hk => areB_all L 0 HL.out.are _ ((s3 _).1 (getD_mem (by omega)))
  have HW : Hid (∀ k, k + 1 < n → cV c (U.getD k zeroR) (U.getD (k + 1) zeroR) ≤ 0) := fun k hk => rise_cV (s2 k (k + 1) (by omega) (by omega))
  obtain ⟨Dn, hDn⟩ : ∃ D, sortR (ordF c true) L = D := ⟨_, rfl⟩
  have CU : Hid (∀ W a' c', RdR W a' n L → Calls Try.prog 16 #[.slice a' n c', .int .i64 c, .bool false] W fun e w' => (∃ (a1 : Option Addr) (c1 : Nat), e = .returned (.tuple #[.slice a1 n c1, .int .i64 0]) ∧ w'.ownsRow W.heap.size 35 7 (.slice a1 n c1) n (cellsR U)) ∧ Below W.heap.size W w') := fun W a' c' h => by rw [← hU]; exact CI.out W a' c' false h
  have CD : Hid (∀ W a' c', RdR W a' n L → Calls Try.prog 16 #[.slice a' n c', .int .i64 c, .bool true] W fun e w' => (∃ (a1 : Option Addr) (c1 : Nat), e = .returned (.tuple #[.slice a1 n c1, .int .i64 0]) ∧ w'.ownsRow W.heap.size 35 7 (.slice a1 n c1) n (cellsR Dn)) ∧ Below W.heap.size W w') := fun W a' c' h => by rw [← hDn]; exact CI.out W a' c' true h
  have CW : Hid (∀ W a' c', RdR W a' n L → Calls Try.prog 14 #[.slice a' n c', .int .i64 c, .bool false] W fun e w' => (∃ (a1 : Option Addr) (c1 : Nat), e = .returned (.tuple #[.slice a1 n c1, .int .i64 0]) ∧ w'.ownsRow W.heap.size 35 7 (.slice a1 n c1) n (cellsR U)) ∧ Below W.heap.size W w') := fun W a' c' h => by rw [← hU]; exact CS.out W a' c' false h
  rw [hDn] at HD
  clear s1 s2 s3 hU hDn CI CS E0 EN EO HS HL hc2
  have D2 := CU.out w2 ar cr (RdR.own O2.out)
  clear CU
  go_wp2_with fail
  refine D2.mono ?_
  rintro e w3 ⟨⟨au, cu, rfl, ou⟩, hb⟩
  have B3 : Hid (Below w.heap.size w w3) := B2.out.trans (hb.mono B2.out.size)
  have O3 : Hid (w3.ownsRow w.heap.size 35 7 (.slice ar n cr) n (cellsR L)) := own_below O2.out hb
  have U3 : Hid (w3.ownsRow w2.heap.size 35 7 (.slice au n cu) n (cellsR U)) := ou
  clear D2 hb ou B2 O2
  have D3 := CD.out w3 ar cr (RdR.own O3.out)
  clear CD
  go_wp2_with fail
  refine D3.mono ?_
  rintro e w4 ⟨⟨ad, cd, rfl, od⟩, hb⟩
  have B4 : Hid (Below w.heap.size w w4) := B3.out.trans (hb.mono B3.out.size)
  have O4 : Hid (w4.ownsRow w.heap.size 35 7 (.slice ar n cr) n (cellsR L)) := own_below O3.out hb
  have U4 : Hid (w4.ownsRow w2.heap.size 35 7 (.slice au n cu) n (cellsR U)) := own_below U3.out hb
  have N4 : Hid (w4.ownsRow w3.heap.size 35 7 (.slice ad n cd) n (cellsR Dn)) := od
  clear D3 hb od B3 O3 U3
  have D4 := CW.out w4 ar cr (RdR.own O4.out)
  clear CW
  go_wp2_with fail
  refine D4.mono ?_
  rintro e w5 ⟨⟨aw, cw, rfl, ow⟩, hb⟩
  have B5 : Hid (Below w.heap.size w w5) := B4.out.trans (hb.mono B4.out.size)
  have R5 : Hid (RdR w5 ar n L) := RdR.own (own_below O4.out hb)
  have U5 : Hid (RdR w5 au n U) := RdR.own (own_below U4.out hb)
  have N5 : Hid (RdR w5 ad n Dn) := RdR.own (own_below N4.out hb)
  have D5 := c_same au aw n cu cw U w5 U5.out (RdR.own ow) (by omega)
  clear D4 hb ow B4 O4 U4 N4
  go_wp2_with fail
  refine D5.mono ?_
  rintro e w6 ⟨rfl, hb⟩
  have B6 : Hid (Below w.heap.size w w6) := B5.out.trans (hb.mono B5.out.size)
  have R6 : Hid (RdR w6 ar n L) := R5.out.below hb
  have U6 : Hid (RdR w6 au n U) := U5.out.below hb
  have N6 : Hid (RdR w6 ad n Dn) := N5.out.below hb
  clear D5 hb B5 R5 U5 N5
  go_wp2_with fail
  go_loopw [13] (fun i wr => ∃ k : Nat, k ≤ n ∧ i = .int .i64 k ∧ Hid (Below w6.heap.size w6 wr)) (fun i _ => n - (intOf i).toNat)
  case atStart => exact ⟨0, by omega, rfl, Below.refl _ _⟩
  case round =>
    obtain ⟨k, hk, rfl, BK⟩ := hrel
    rename World => wo
    by_cases hlt : k < n
    · obtain ⟨bu, ou, eau, lu, cu1⟩ := U6.out.2 (by omega)
      obtain ⟨bd, od, ead, ld, cd1⟩ := N6.out.2 (by omega)
      obtain ⟨br, or_, ear, lr, cr1⟩ := R6.out.2 (by omega)
      subst eau ead ear
      obtain ⟨m, hm0⟩ : ∃ m, n - 1 - k = m := ⟨_, rfl⟩
      have hmn : (n : Int) - 1 - (k : Int) = (m : Int) := by omega
      obtain ⟨⟨vi, va, vb, vt, vp, vq, vz⟩, hv⟩ : ∃ v, v = U.getD k zeroR := ⟨_, rfl⟩
      have hv2 : ⟨vi, va, vb, vt, vp, vq, vz⟩ = Dn.getD m zeroR := by rw [hv, ← HD.out k hlt, hm0]
      obtain ⟨d0, d1, d2, d3, d4, d5, d6⟩ := RdR.at cu1 hlt hv
      obtain ⟨x0, x1, x2, x3, x4, x5, x6⟩ := RdR.at cd1 (show m < n by omega) hv2
      dsimp only at d0 d1 d2 d3 d4 d5 d6 x0 x1 x2 x3 x4 x5 x6
      have e0 : wo.cell? ⟨bu, ou + k * 7, none⟩ = some (.int .i64 vi) := by rw [BK.out.cell (p := ⟨bu, ou + k * 7, none⟩) lu, d0]
      have e1 : wo.cell? ⟨bu, ou + k * 7 + 1, none⟩ = some (.int .i64 va) := by rw [BK.out.cell (p := ⟨bu, ou + k * 7 + 1, none⟩) lu, d1]
      have e2 : wo.cell? ⟨bu, ou + k * 7 + 2, none⟩ = some (.int .i64 vb) := by rw [BK.out.cell (p := ⟨bu, ou + k * 7 + 2, none⟩) lu, d2]
      have e3 : wo.cell? ⟨bu, ou + k * 7 + 3, none⟩ = some (.string vt) := by rw [BK.out.cell (p := ⟨bu, ou + k * 7 + 3, none⟩) lu, d3]
      have e4 : wo.cell? ⟨bu, ou + k * 7 + 4, none⟩ = some (.int .i64 vp) := by rw [BK.out.cell (p := ⟨bu, ou + k * 7 + 4, none⟩) lu, d4]
      have e5 : wo.cell? ⟨bu, ou + k * 7 + 5, none⟩ = some (.int .i64 vq) := by rw [BK.out.cell (p := ⟨bu, ou + k * 7 + 5, none⟩) lu, d5]
      have e6 : wo.cell? ⟨bu, ou + k * 7 + 6, none⟩ = some (.string vz) := by rw [BK.out.cell (p := ⟨bu, ou + k * 7 + 6, none⟩) lu, d6]
      have y0 : wo.cell? ⟨bd, od + m * 7, none⟩ = some (.int .i64 vi) := by rw [BK.out.cell (p := ⟨bd, od + m * 7, none⟩) ld, x0]
      have y1 : wo.cell? ⟨bd, od + m * 7 + 1, none⟩ = some (.int .i64 va) := by rw [BK.out.cell (p := ⟨bd, od + m * 7 + 1, none⟩) ld, x1]
      have y2 : wo.cell? ⟨bd, od + m * 7 + 2, none⟩ = some (.int .i64 vb) := by rw [BK.out.cell (p := ⟨bd, od + m * 7 + 2, none⟩) ld, x2]
      have y3 : wo.cell? ⟨bd, od + m * 7 + 3, none⟩ = some (.string vt) := by rw [BK.out.cell (p := ⟨bd, od + m * 7 + 3, none⟩) ld, x3]
      have y4 : wo.cell? ⟨bd, od + m * 7 + 4, none⟩ = some (.int .i64 vp) := by rw [BK.out.cell (p := ⟨bd, od + m * 7 + 4, none⟩) ld, x4]
      have y5 : wo.cell? ⟨bd, od + m * 7 + 5, none⟩ = some (.int .i64 vq) := by rw [BK.out.cell (p := ⟨bd, od + m * 7 + 5, none⟩) ld, x5]
      have y6 : wo.cell? ⟨bd, od + m * 7 + 6, none⟩ = some (.string vz) := by rw [BK.out.cell (p := ⟨bd, od + m * 7 + 6, none⟩) ld, x6]
      have q0 := fun r : Out wo => q_cell e0 r
      have p0 := fun r : Out wo => q_cell y0 r
      have q1 := fun r : Out wo => q_cell e1 r
      have p1 := fun r : Out wo => q_cell y1 r
      have q2 := fun r : Out wo => q_cell e2 r
      have p2 := fun r : Out wo => q_cell y2 r
      have q3 := fun r : Out wo => q_cell e3 r
      have p3 := fun r : Out wo => q_cell y3 r
      have q4 := fun r : Out wo => q_cell e4 r
      have p4 := fun r : Out wo => q_cell y4 r
      have q5 := fun r : Out wo => q_cell e5 r
      have p5 := fun r : Out wo => q_cell y5 r
      have q6 := fun r : Out wo => q_cell e6 r
      have p6 := fun r : Out wo => q_cell y6 r
      have HE : ∀ W, (Op.equalIn 10000 35 (.agg #[.int .i64 vi, .int .i64 va, .int .i64 vb, .string vt, .int .i64 vp, .int .i64 vq, .string vz]) (.agg #[.int .i64 vi, .int .i64 va, .int .i64 vb, .string vt, .int .i64 vp, .int .i64 vq, .string vz])).run Try.prog W = .ok true W := fun W => by rw [eqR2, rowEq_self]
      have g3 : (0 : Int) ≤ (k : Int) := by omega
      have g4 : (k : Int) < (n : Int) := by omega
      have g5 : (0 : Int) ≤ (m : Int) := by omega
      have g6 : (m : Int) < (n : Int) := by omega
      have HVK : Hid (⟨vi, va, vb, vt, vp, vq, vz⟩ = U.getD k zeroR) := hv
      clear hv hv2 d0 d1 d2 d3 d4 d5 d6 x0 x1 x2 x3 x4 x5 x6 hm0 y0 y1 y2 y3 y4 y5 y6
      go_wp2_with fail
      haveI nonE := Out.some wo
      refine q_begin (by kernel_rfl) (by kernel_rfl) ?_
      repeat (go_big_quiet_step (fail))
      refine wpQuiet_nil ?_
      rintro w3 ⟨⟨y', hb3⟩, hy⟩
      have hy' : w3 = y' := hy
      clear hy
      subst hy'
      have BK3 : Hid (Below w6.heap.size w6 w3) := BK.out.trans (hb3.mono BK.out.size)
      clear hb3 q0 q1 q2 q3 q4 q5 q6 p0 p1 p2 p3 p4 p5 p6 e0 e1 e2 e3 e4 e5 e6 BK HE hmn g5 g6
      go_wp2_with fail
      go_loopw [14, 15] (fun o i wr => ∃ (j : Nat) (fb : Bool), j ≤ n ∧ i = .int .i64 j ∧ o = .bool fb ∧ Hid (∀ j', j' < j → L.getD j' zeroR = ⟨vi, va, vb, vt, vp, vq, vz⟩ → fb = true) ∧ Hid (Below w6.heap.size w6 wr)) (fun _ i _ => n - (intOf i).toNat)
      case atStart => exact ⟨0, false, by omega, rfl, rfl, fun j' h => by omega, BK3⟩
      case round =>
        obtain ⟨j, fb, hj, rfl, rfl, HF, BJ⟩ := hrel
        rename World => wi
        by_cases hjl : j < n
        · obtain ⟨⟨xi, xa, xb, xt, xp, xq, xz⟩, hx⟩ : ∃ x, x = L.getD j zeroR := ⟨_, rfl⟩
          obtain ⟨d0, d1, d2, d3, d4, d5, d6⟩ := RdR.at cr1 hjl hx
          obtain ⟨u0, u1, u2, u3, u4, u5, u6⟩ := RdR.at cu1 hlt HVK.out
          dsimp only at d0 d1 d2 d3 d4 d5 d6 u0 u1 u2 u3 u4 u5 u6
          have e0 : wi.cell? ⟨br, or_ + j * 7, none⟩ = some (.int .i64 xi) := by rw [BJ.out.cell (p := ⟨br, or_ + j * 7, none⟩) lr, d0]
          have e1 : wi.cell? ⟨br, or_ + j * 7 + 1, none⟩ = some (.int .i64 xa) := by rw [BJ.out.cell (p := ⟨br, or_ + j * 7 + 1, none⟩) lr, d1]
          have e2 : wi.cell? ⟨br, or_ + j * 7 + 2, none⟩ = some (.int .i64 xb) := by rw [BJ.out.cell (p := ⟨br, or_ + j * 7 + 2, none⟩) lr, d2]
          have e3 : wi.cell? ⟨br, or_ + j * 7 + 3, none⟩ = some (.string xt) := by rw [BJ.out.cell (p := ⟨br, or_ + j * 7 + 3, none⟩) lr, d3]
          have e4 : wi.cell? ⟨br, or_ + j * 7 + 4, none⟩ = some (.int .i64 xp) := by rw [BJ.out.cell (p := ⟨br, or_ + j * 7 + 4, none⟩) lr, d4]
          have e5 : wi.cell? ⟨br, or_ + j * 7 + 5, none⟩ = some (.int .i64 xq) := by rw [BJ.out.cell (p := ⟨br, or_ + j * 7 + 5, none⟩) lr, d5]
          have e6 : wi.cell? ⟨br, or_ + j * 7 + 6, none⟩ = some (.string xz) := by rw [BJ.out.cell (p := ⟨br, or_ + j * 7 + 6, none⟩) lr, d6]
          have y0 : wi.cell? ⟨bu, ou + k * 7, none⟩ = some (.int .i64 vi) := by rw [BJ.out.cell (p := ⟨bu, ou + k * 7, none⟩) lu, u0]
          have y1 : wi.cell? ⟨bu, ou + k * 7 + 1, none⟩ = some (.int .i64 va) := by rw [BJ.out.cell (p := ⟨bu, ou + k * 7 + 1, none⟩) lu, u1]
          have y2 : wi.cell? ⟨bu, ou + k * 7 + 2, none⟩ = some (.int .i64 vb) := by rw [BJ.out.cell (p := ⟨bu, ou + k * 7 + 2, none⟩) lu, u2]
          have y3 : wi.cell? ⟨bu, ou + k * 7 + 3, none⟩ = some (.string vt) := by rw [BJ.out.cell (p := ⟨bu, ou + k * 7 + 3, none⟩) lu, u3]
          have y4 : wi.cell? ⟨bu, ou + k * 7 + 4, none⟩ = some (.int .i64 vp) := by rw [BJ.out.cell (p := ⟨bu, ou + k * 7 + 4, none⟩) lu, u4]
          have y5 : wi.cell? ⟨bu, ou + k * 7 + 5, none⟩ = some (.int .i64 vq) := by rw [BJ.out.cell (p := ⟨bu, ou + k * 7 + 5, none⟩) lu, u5]
          have y6 : wi.cell? ⟨bu, ou + k * 7 + 6, none⟩ = some (.string vz) := by rw [BJ.out.cell (p := ⟨bu, ou + k * 7 + 6, none⟩) lu, u6]
          have q0 := fun r : Out wi => q_cell e0 r
          have p0 := fun r : Out wi => q_cell y0 r
          have q1 := fun r : Out wi => q_cell e1 r
          have p1 := fun r : Out wi => q_cell y1 r
          have q2 := fun r : Out wi => q_cell e2 r
          have p2 := fun r : Out wi => q_cell y2 r
          have q3 := fun r : Out wi => q_cell e3 r
          have p3 := fun r : Out wi => q_cell y3 r
          have q4 := fun r : Out wi => q_cell e4 r
          have p4 := fun r : Out wi => q_cell y4 r
          have q5 := fun r : Out wi => q_cell e5 r
          have p5 := fun r : Out wi => q_cell y5 r
          have q6 := fun r : Out wi => q_cell e6 r
          have p6 := fun r : Out wi => q_cell y6 r
          obtain ⟨eb, heb⟩ : ∃ b, rowEq ⟨xi, xa, xb, xt, xp, xq, xz⟩ ⟨vi, va, vb, vt, vp, vq, vz⟩ = b := ⟨_, rfl⟩
          have HE2 : ∀ W, (Op.equalIn 10000 35 (.agg #[.int .i64 xi, .int .i64 xa, .int .i64 xb, .string xt, .int .i64 xp, .int .i64 xq, .string xz]) (.agg #[.int .i64 vi, .int .i64 va, .int .i64 vb, .string vt, .int .i64 vp, .int .i64 vq, .string vz])).run Try.prog W = .ok eb W := fun W => by rw [eqR2, heb]
          have HN : Hid (∀ f, (fb = true → f = true) → (eb = true → f = true) → ∀ j', j' < j + 1 → L.getD j' zeroR = ⟨vi, va, vb, vt, vp, vq, vz⟩ → f = true) := fun f h1 h2 j' hj' e => by
            rcases Nat.lt_or_ge j' j with hh | hh
            · exact h1 (HF.out j' hh e)
            · rw [show j' = j by omega, ← hx] at e
              exact h2 (by rw [← heb, e, rowEq_self])
          have g5 : (0 : Int) ≤ (j : Int) := by omega
          have g6 : (j : Int) < (n : Int) := by omega
          clear hx heb d0 d1 d2 d3 d4 d5 d6 u0 u1 u2 u3 u4 u5 u6 e0 e1 e2 e3 e4 e5 e6 y0 y1 y2 y3 y4 y5 y6 HF
          cases fb
          · go_wp2_with fail
            haveI nonE := Out.some wi
            refine q_begin (by kernel_rfl) (by kernel_rfl) ?_
            repeat (go_big_quiet_step (fail))
            refine wpQuiet_nil ?_
            rintro w4 ⟨⟨y', hb4⟩, hy⟩
            have hy' : w4 = y' := hy
            clear hy
            subst hy'
            have B4 : Hid (Below w6.heap.size w6 w4) := BJ.out.trans (hb4.mono BJ.out.size)
            clear hb4 q0 q1 q2 q3 q4 q5 q6 p0 p1 p2 p3 p4 p5 p6
            go_wp2
            go_roundw
            case rel => exact ⟨j + 1, eb, by omega, by go_num, rfl, HN.out eb (fun h => by cases h) id, B4⟩
            case measure => simp [intOf]; omega
          · go_wp2_with fail
            haveI nonE := Out.some wi
            refine q_begin (by kernel_rfl) (by kernel_rfl) ?_
            repeat (go_big_quiet_step (fail))
            refine wpQuiet_nil ?_
            rintro w4 ⟨⟨y', hb4⟩, hy⟩
            have hy' : w4 = y' := hy
            clear hy
            subst hy'
            have B4 : Hid (Below w6.heap.size w6 w4) := BJ.out.trans (hb4.mono BJ.out.size)
            clear hb4 q0 q1 q2 q3 q4 q5 q6 p0 p1 p2 p3 p4 p5 p6
            go_wp2
            go_roundw
            case rel => exact ⟨j + 1, true, by omega, by go_num, rfl, HN.out true (fun _ => rfl) (fun _ => rfl), B4⟩
            case measure => simp [intOf]; omega
        · have e : j = n := by omega
          subst e
          obtain ⟨j', hj', ej'⟩ := HM.out k hlt
          have hfb : fb = true := HF.out j' hj' (by rw [ej', ← HVK.out])
          subst hfb
          clear HF ej' hj' hjl
          rcases Nat.eq_zero_or_pos k with hk0 | hkp
          · subst hk0
            go_wp2
            go_roundw
            case rel => exact ⟨0 + 1, by omega, by go_num, BJ⟩
            case measure => simp [intOf]; omega
          · have z0 : ((k : Int) == 0) = false := by simp; omega
            by_cases hc1 : c = 1
            · subst hc1
              obtain ⟨m, rfl⟩ : ∃ m, k = m + 1 := ⟨k - 1, by omega⟩
              obtain ⟨⟨xi, xa, xb, xt, xp, xq, xz⟩, hx⟩ : ∃ x, x = U.getD m zeroR := ⟨_, rfl⟩
              obtain ⟨d0, d1, d2, d3, d4, d5, d6⟩ := RdR.at cu1 (show m < j by omega) hx
              obtain ⟨u0, u1, u2, u3, u4, u5, u6⟩ := RdR.at cu1 hlt HVK.out
              dsimp only at d0 d1 d2 d3 d4 d5 d6 u0 u1 u2 u3 u4 u5 u6
              have e0 : wi.cell? ⟨bu, ou + m * 7, none⟩ = some (.int .i64 xi) := by rw [BJ.out.cell (p := ⟨bu, ou + m * 7, none⟩) lu, d0]
              have e1 : wi.cell? ⟨bu, ou + m * 7 + 1, none⟩ = some (.int .i64 xa) := by rw [BJ.out.cell (p := ⟨bu, ou + m * 7 + 1, none⟩) lu, d1]
              have e2 : wi.cell? ⟨bu, ou + m * 7 + 2, none⟩ = some (.int .i64 xb) := by rw [BJ.out.cell (p := ⟨bu, ou + m * 7 + 2, none⟩) lu, d2]
              have e3 : wi.cell? ⟨bu, ou + m * 7 + 3, none⟩ = some (.string xt) := by rw [BJ.out.cell (p := ⟨bu, ou + m * 7 + 3, none⟩) lu, d3]
              have e4 : wi.cell? ⟨bu, ou + m * 7 + 4, none⟩ = some (.int .i64 xp) := by rw [BJ.out.cell (p := ⟨bu, ou + m * 7 + 4, none⟩) lu, d4]
              have e5 : wi.cell? ⟨bu, ou + m * 7 + 5, none⟩ = some (.int .i64 xq) := by rw [BJ.out.cell (p := ⟨bu, ou + m * 7 + 5, none⟩) lu, d5]
              have e6 : wi.cell? ⟨bu, ou + m * 7 + 6, none⟩ = some (.string xz) := by rw [BJ.out.cell (p := ⟨bu, ou + m * 7 + 6, none⟩) lu, d6]
              have y0 : wi.cell? ⟨bu, ou + (m + 1) * 7, none⟩ = some (.int .i64 vi) := by rw [BJ.out.cell (p := ⟨bu, ou + (m + 1) * 7, none⟩) lu, u0]
              have y1 : wi.cell? ⟨bu, ou + (m + 1) * 7 + 1, none⟩ = some (.int .i64 va) := by rw [BJ.out.cell (p := ⟨bu, ou + (m + 1) * 7 + 1, none⟩) lu, u1]
              have y2 : wi.cell? ⟨bu, ou + (m + 1) * 7 + 2, none⟩ = some (.int .i64 vb) := by rw [BJ.out.cell (p := ⟨bu, ou + (m + 1) * 7 + 2, none⟩) lu, u2]
              have y3 : wi.cell? ⟨bu, ou + (m + 1) * 7 + 3, none⟩ = some (.string vt) := by rw [BJ.out.cell (p := ⟨bu, ou + (m + 1) * 7 + 3, none⟩) lu, u3]
              have y4 : wi.cell? ⟨bu, ou + (m + 1) * 7 + 4, none⟩ = some (.int .i64 vp) := by rw [BJ.out.cell (p := ⟨bu, ou + (m + 1) * 7 + 4, none⟩) lu, u4]
              have y5 : wi.cell? ⟨bu, ou + (m + 1) * 7 + 5, none⟩ = some (.int .i64 vq) := by rw [BJ.out.cell (p := ⟨bu, ou + (m + 1) * 7 + 5, none⟩) lu, u5]
              have y6 : wi.cell? ⟨bu, ou + (m + 1) * 7 + 6, none⟩ = some (.string vz) := by rw [BJ.out.cell (p := ⟨bu, ou + (m + 1) * 7 + 6, none⟩) lu, u6]
              have q0 := fun r : Out wi => q_cell e0 r
              have p0 := fun r : Out wi => q_cell y0 r
              have q1 := fun r : Out wi => q_cell e1 r
              have p1 := fun r : Out wi => q_cell y1 r
              have q2 := fun r : Out wi => q_cell e2 r
              have p2 := fun r : Out wi => q_cell y2 r
              have q3 := fun r : Out wi => q_cell e3 r
              have p3 := fun r : Out wi => q_cell y3 r
              have q4 := fun r : Out wi => q_cell e4 r
              have p4 := fun r : Out wi => q_cell y4 r
              have q5 := fun r : Out wi => q_cell e5 r
              have p5 := fun r : Out wi => q_cell y5 r
              have q6 := fun r : Out wi => q_cell e6 r
              have p6 := fun r : Out wi => q_cell y6 r
              have k1 := rowK_parts (HV.out m (by omega))
              have k2 := rowK_parts (HV.out (m + 1) hlt)
              rw [← hx] at k1
              rw [← HVK.out] at k2
              have hw := HW.out m hlt
              rw [← hx, ← HVK.out] at hw
              obtain ⟨z, hz⟩ : ∃ z, cmpV xa xb xt va vb vt = z := ⟨_, rfl⟩
              have hz0 : ¬ 0 < z := by
                have : cV 1 ⟨xi, xa, xb, xt, xp, xq, xz⟩ ⟨vi, va, vb, vt, vp, vq, vz⟩ = z := hz
                omega
              have CQ : Hid (∀ r : Out wi, Calls Try.prog 23 #[.agg #[.int .i64 xa, .int .i64 xb, .string xt], .agg #[.int .i64 va, .int .i64 vb, .string vt]] r.y fun e w' => e = .returned (.tuple #[.int .i64 z, .int .i64 0]) ∧ Below r.y.heap.size r.y w') := fun r => by rw [← hz]; exact c_cmpVals _ _ _ _ _ _ r.y k1.1 k2.1
              have g5 : (0 : Int) ≤ (m : Int) := by omega
              have g6 : (m : Int) < (j : Int) := by omega
              have g7 : (m : Int) + 1 < (j : Int) := by omega
              have g8 : ¬ ((m : Int) + 1 = 0) := by omega
              clear hx k1 k2 hw hz d0 d1 d2 d3 d4 d5 d6 u0 u1 u2 u3 u4 u5 u6 e0 e1 e2 e3 e4 e5 e6 y0 y1 y2 y3 y4 y5 y6
              go_wp2_with fail
              haveI nonE := Out.some wi
              refine q_begin (by kernel_rfl) (by kernel_rfl) ?_
              repeat (go_big_quiet_step (exact q_call (CQ.out _)))
              refine wpQuiet_nil ?_
              rintro w4 ⟨⟨y', hb4⟩, hy⟩
              have hy' : w4 = y' := hy
              clear hy
              subst hy'
              have B4 : Hid (Below w6.heap.size w6 w4) := BJ.out.trans (hb4.mono BJ.out.size)
              clear hb4 q0 q1 q2 q3 q4 q5 q6 p0 p1 p2 p3 p4 p5 p6 CQ
              go_wp2
              go_roundw
              case rel => exact ⟨m + 1 + 1, by omega, by go_num, B4⟩
              case measure => simp [intOf]; omega
            · have z1 : (c != 1) = true := by simp [hc1]
              go_wp2
              go_roundw
              case rel => exact ⟨k + 1, by omega, by go_num, BJ⟩
              case measure => simp [intOf]; omega
    · have e : k = n := by omega
      subst e
      have B7 : Hid (Below w.heap.size w wo) := B6.out.trans (BK.out.mono B6.out.size)
      clear B6 BK
      go_wp2
      go_ret
      exact ⟨rfl, B7.out⟩

end Go.Proofs.Ytlapmidiakaimaa
