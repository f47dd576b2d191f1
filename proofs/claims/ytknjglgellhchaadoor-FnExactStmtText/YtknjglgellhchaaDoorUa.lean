/-
  AnswerText: what it tells; whether rows are right.
-/
import Derived.Test.YtknjglgellhchaaDoorRa
import Derived.Test.YtknjglgellhchaaDoorTg
import Derived.Test.YtknjglgellhchaaDoorJo
import Derived.Test.YtknjglgellhchaaDoorTb
import Derived.Test.YtknjglgellhchaaDoorXr
import Derived.Deep.RegionHeld3
namespace Go.Proofs.YtknjglgellhchaaDoor
open Go Go.RowKit
attribute [local go_sem ↓] Go.wp_at_zero Go.wp_at_succ

set_option linter.unusedVariables false
set_option linter.unusedSimpArgs false
def rowK (r : RW) : Bool := rowB r.i (r.a, r.b, r.t) (r.p, r.q, r.z)
def itB (n : Int) : ByteArray := ⟨(Lib.itoa n).toArray⟩
def rowL (r : RW) : List ByteArray := [rwS r.i (r.a, r.b, r.t) (r.p, r.q, r.z) 0, rwS r.i (r.a, r.b, r.t) (r.p, r.q, r.z) 1, rwS r.i (r.a, r.b, r.t) (r.p, r.q, r.z) 2]
def rowT (r : RW) : ByteArray := ⟨#[40]⟩ ++ joinS (rowL r) ++ ⟨#[41]⟩
def ansL (c : Int) (vs : List RW) : List ByteArray := itB c :: vs.map rowT
def ansB (c : Int) (n : Nat) (vs : List RW) : Bool := inB c 0 100 && (decide (n ≤ 100) && vs.all rowK)
def ansS (c : Int) (n : Nat) (vs : List RW) : ByteArray := if ansB c n vs then joinS (ansL c vs) else ⟨#[]⟩
def ansE (c : Int) (n : Nat) (vs : List RW) : Int := if ansB c n vs then 0 else 1
theorem ans_no {c : Int} {n : Nat} {vs : List RW} (h : ansB c n vs = false) : ansS c n vs = ⟨#[]⟩ ∧ ansE c n vs = 1 := by unfold ansS ansE; rw [h]; exact ⟨rfl, rfl⟩
theorem ans_yes {c : Int} {n : Nat} {vs : List RW} (h : ansB c n vs = true) : ansS c n vs = joinS (ansL c vs) ∧ ansE c n vs = 0 := by unfold ansS ansE; rw [h]; exact ⟨rfl, rfl⟩
theorem ba_eq {a b : ByteArray} (h : a.data = b.data) : a = b := by cases a; cases b; simp only at h; rw [h]
theorem ba_data (l : List UInt8) : (ByteArray.mk l.toArray).data.toList = l := by simp
theorem join_snoc (x : ByteArray) (ys : List ByteArray) (y : ByteArray) : joinS (x :: (ys ++ [y])) = joinS (x :: ys) ++ (⟨#[32]⟩ ++ y) := by
  apply ba_eq
  simp [joinS, Lib.join_cons, Lib.joinTail, ByteArray.data_append]
theorem join_one (x : ByteArray) : joinS [x] = x := by
  apply ba_eq
  simp [joinS, Lib.join_one]
theorem joinTail_size : ∀ (ys : List ByteArray) (m : Nat), (∀ y ∈ ys, y.size ≤ m) → (Lib.joinTail [32] (ys.map (·.data.toList))).length ≤ ys.length * (m + 1)
  | [], _, _ => by simp [Lib.joinTail]
  | y :: ys, m, h => by
    have h1 := joinTail_size ys m (fun z hz => h z (List.mem_cons_of_mem _ hz))
    have h2 : y.data.size ≤ m := h y List.mem_cons_self
    have e : (Lib.joinTail [32] ((y :: ys).map (·.data.toList))).length = 1 + y.data.size + (Lib.joinTail [32] (ys.map (·.data.toList))).length := by simp [Lib.joinTail]; omega
    rw [e, List.length_cons, Nat.add_mul]
    omega
theorem join_size (x : ByteArray) (ys : List ByteArray) (m : Nat) (h : ∀ y ∈ ys, y.size ≤ m) : (joinS (x :: ys)).size ≤ x.size + ys.length * (m + 1) := by
  have h1 := joinTail_size ys m h
  have e : (joinS (x :: ys)).size = x.data.size + (Lib.joinTail [32] (ys.map (·.data.toList))).length := by
    show (Lib.join ((x :: ys).map (·.data.toList)) [32]).toArray.size = _
    rw [List.map_cons, Lib.join_cons]
    simp
  rw [e]
  show x.data.size + _ ≤ x.data.size + _
  omega
theorem vtS_size {k n : Int} {t : ByteArray} (h : valB k n t = true) (ht : t.size ≤ maxLen) : (vtS k n t).size ≤ 30 := txP_size (.con k n t) ⟨h, ht⟩
theorem itB_size {n : Int} (h0 : -1000000000 ≤ n) (h1 : n ≤ 1000000000) : (itB n).size ≤ 21 := by
  have := itoa_len n h0 h1
  show (Lib.itoa n).toArray.size ≤ 21
  simpa using this
theorem rowK_parts {r : RW} (h : rowK r = true) : (0 ≤ r.i ∧ r.i ≤ 1000) ∧ valB r.a r.b r.t = true ∧ valB r.p r.q r.z = true := by
  unfold rowK rowB okV inB at h
  simp at h
  exact ⟨h.1.1.1.1, h.1.1.1.2, h.1.1.2⟩
theorem rwS0 {r : RW} (h : rowK r = true) : rwS r.i (r.a, r.b, r.t) (r.p, r.q, r.z) 0 = itB r.i := by
  have hi := (rowK_parts h).1
  have hv : valB 1 r.i ⟨#[]⟩ = true := by
    rw [val1]
    have : inB r.i (-1000000000) 1000000000 = true := by unfold inB; simp; omega
    rw [this]
    have e : (⟨#[]⟩ : ByteArray).toList = [] := by decide +kernel
    rw [e]; rfl
  exact (vt_1 hv).1
theorem rwS1 (r : RW) : rwS r.i (r.a, r.b, r.t) (r.p, r.q, r.z) 1 = vtS r.a r.b r.t := rfl
theorem rwS2 (r : RW) : rwS r.i (r.a, r.b, r.t) (r.p, r.q, r.z) 2 = vtS r.p r.q r.z := rfl
theorem rowL_eq {r : RW} (h : rowK r = true) : rowL r = [itB r.i, vtS r.a r.b r.t, vtS r.p r.q r.z] := by unfold rowL; rw [rwS0 h, rwS1, rwS2]
theorem rowJ_size {r : RW} (h : rowK r = true) (hs : r.t.size ≤ maxLen ∧ r.z.size ≤ maxLen) : (joinS (rowL r)).size ≤ 83 := by
  rw [rowL_eq h]
  obtain ⟨h0, h1, h2⟩ := rowK_parts h
  have a0 := itB_size (n := r.i) (by omega) (by omega)
  have := join_size (itB r.i) [vtS r.a r.b r.t, vtS r.p r.q r.z] 30 (fun y hy => by
    simp only [List.mem_cons, List.not_mem_nil, or_false] at hy
    rcases hy with rfl | rfl
    · exact vtS_size h1 hs.1
    · exact vtS_size h2 hs.2)
  simp only [List.length_cons, List.length_nil] at this
  omega
theorem rowT_size {r : RW} (h : rowK r = true) (hs : r.t.size ≤ maxLen ∧ r.z.size ≤ maxLen) : (rowT r).size ≤ 85 := by
  unfold rowT
  rw [ByteArray.size_append, ByteArray.size_append]
  have := rowJ_size h hs
  have h3 : (⟨#[40]⟩ : ByteArray).size = 1 := rfl
  have h4 : (⟨#[41]⟩ : ByteArray).size = 1 := rfl
  omega
theorem rowT_eq {r : RW} (h : rowK r = true) : (⟨#[32]⟩ : ByteArray) ++ rowT r = ⟨#[32, 40]⟩ ++ itB r.i ++ ⟨#[32]⟩ ++ vtS r.a r.b r.t ++ ⟨#[32]⟩ ++ vtS r.p r.q r.z ++ ⟨#[41]⟩ := by
  unfold rowT
  rw [rowL_eq h]
  apply ba_eq
  simp [joinS, Lib.join_cons, Lib.joinTail, ByteArray.data_append]
theorem ansL_step (c : Int) (vs : List RW) (k : Nat) (h : k < vs.length) : ansL c (vs.take (k + 1)) = ansL c (vs.take k) ++ [rowT (vs.getD k zeroR)] := by
  unfold ansL
  rw [List.take_add_one, List.getElem?_eq_getElem h, List.getD_eq_getElem?_getD, List.getElem?_eq_getElem h]
  simp only [List.map_append, Option.toList_some, List.map_cons, List.map_nil, Option.getD_some, List.cons_append]
theorem ansJ_step (c : Int) (vs : List RW) (k : Nat) (h : k < vs.length) : joinS (ansL c (vs.take (k + 1))) = joinS (ansL c (vs.take k)) ++ (⟨#[32]⟩ ++ rowT (vs.getD k zeroR)) := by
  rw [ansL_step c vs k h]
  exact join_snoc _ _ _
theorem ansL_len (c : Int) (vs : List RW) (k : Nat) (h : k ≤ vs.length) : (ansL c (vs.take k)).length = k + 1 := by
  unfold ansL
  simp
  omega
theorem ansJ_size (c : Int) (vs : List RW) (k : Nat) (h0 : 0 ≤ c) (h1 : c ≤ 100) (hk : k ≤ 100) (hK : ∀ v ∈ vs, rowK v = true) (hs : ∀ v ∈ vs, v.t.size ≤ maxLen ∧ v.z.size ≤ maxLen) : (joinS (ansL c (vs.take k))).size ≤ 10000 := by
  have a0 := itB_size (n := c) (by omega) (by omega)
  have := join_size (itB c) ((vs.take k).map rowT) 85 (fun y hy => by
    obtain ⟨v, hv, rfl⟩ := List.mem_map.1 hy
    have hm := List.mem_of_mem_take hv
    exact rowT_size (hK v hm) (hs v hm))
  have hl : ((vs.take k).map rowT).length ≤ 100 := by simp; omega
  unfold ansL
  have h2 : ((vs.take k).map rowT).length * (85 + 1) ≤ 100 * (85 + 1) := Nat.mul_le_mul_right _ hl
  omega
theorem c_isRowR (r : RW) (w : World) (h : r.t.size ≤ maxLen ∧ r.z.size ≤ maxLen) : Calls Tryd.prog 56 #[.agg (cR r).toArray] w fun e w' => e = .returned (.bool (rowK r)) ∧ Below w.heap.size w w' := c_isRow r.i (r.a, r.b, r.t) (r.p, r.q, r.z) w h.1 h.2
theorem c_lRowR (r : RW) (w : World) (h : r.t.size ≤ maxLen ∧ r.z.size ≤ maxLen) : Calls Tryd.prog 51 #[.agg (cR r).toArray] w fun e w' => e = .returned (.bool (rowK r)) ∧ Below w.heap.size w w' := c_lRow r.i (r.a, r.b, r.t) (r.p, r.q, r.z) w h.1 h.2
theorem c_joinO (B : Nat) (a : Option Addr) (c n : Nat) (xs : List ByteArray) (w : World) (h : w.ownsRow B 9 1 (.slice a n c) n (strs xs)) (h0 : 0 < n) (hn : n ≤ 1000) (hl : (joinS xs).size ≤ 100000000) :
    Calls Tryd.prog 47 #[.slice a n c, .string ⟨#[32]⟩] w fun e w' => e = .returned (.string (joinS xs)) ∧ Below w.heap.size w w' := by
  have hln : xs.length = n := by have := h.1; simpa [strs] using this
  subst hln
  rcases h.2 with ⟨_, e⟩ | ⟨g, cap, cur, hv, hb, hg, hnc, hcm, hcs, ht⟩
  · omega
  · simp only [Value.slice.injEq] at hv
    obtain ⟨rfl, _, rfl⟩ := hv
    refine c_join g c xs w (fun j x hj => ?_) ((Array.getElem?_eq_some_iff.1 hg).1) hn hnc hl
    have hlt : j < xs.length := (List.getElem?_eq_some_iff.1 hj).1
    rw [h.cellAt j (by omega)]
    unfold strs
    rw [List.getElem?_map, hj]
    rfl
set_option maxRecDepth 100000 in
set_option maxHeartbeats 8000000 in
theorem c_noR (vi va vb : Int) (vt : ByteArray) (vp vq : Int) (vz : ByteArray) (w : World) (hs : vt.size ≤ maxLen ∧ vz.size ≤ maxLen) : Calls Tryd.prog 55 #[.agg #[.int .i64 vi, .int .i64 va, .int .i64 vb, .string vt, .int .i64 vp, .int .i64 vq, .string vz]] w fun e w' => e = .returned (.bool (!rowK ⟨vi, va, vb, vt, vp, vq, vz⟩)) ∧ Below w.heap.size w w' := by
  obtain ⟨V, hV⟩ : ∃ W, w.alloc (.cells #[.int .i64 vi, .int .i64 va, .int .i64 vb, .string vt, .int .i64 vp, .int .i64 vq, .string vz] 50) = W := ⟨_, rfl⟩
  have BV : Hid (Below w.heap.size w V) := by unfold Hid; rw [← hV]; exact (Below.refl _ _).alloc (Nat.le_refl _) _
  have XV : Hid (Box V w.heap.size 50 #[.int .i64 vi, .int .i64 va, .int .i64 vb, .string vt, .int .i64 vp, .int .i64 vq, .string vz]) := by unfold Hid; rw [← hV]; exact Box.new _ _ _
  have C := c_isRowR ⟨vi, va, vb, vt, vp, vq, vz⟩ V hs
  obtain ⟨rk, hrk⟩ : ∃ b, rowK ⟨vi, va, vb, vt, vp, vq, vz⟩ = b := ⟨_, rfl⟩
  rw [hrk] at C ⊢
  obtain ⟨x0, x1, x2, x3, x4, x5, x6⟩ := box7 XV.out
  clear hrk
  go_enter Tryd.func55, Tryd.ntmps55
  go_wp2_with fail
  refine C.mono ?_
  rintro e w1 ⟨rfl, hb1⟩
  have B1 : Hid (Below w.heap.size w w1) := BV.out.trans (hb1.mono BV.out.size)
  clear hb1 C
  go_wp2
  go_ret
  exact ⟨rfl, B1.out⟩
set_option maxRecDepth 100000 in
set_option maxHeartbeats 8000000 in
theorem c_idxR (a : Option Addr) (n cap : Nat) (vs : List RW) (w : World) (hr : RdR w a n vs) (hn : n ≤ 1048576) (hs : ∀ v ∈ vs, v.t.size ≤ maxLen ∧ v.z.size ≤ maxLen) :
    Calls Tryd.prog 95 #[.slice a n cap, .func (Fn.func 55) #[] #[]] w fun e w' => (∃ i : Int, e = .returned (.int .i64 i) ∧ decide (0 ≤ i) = vs.any (fun k => !rowK k)) ∧ Below w.heap.size w w' := by
  obtain ⟨hl, hcs⟩ := hr
  have HSZ : Hid (∀ v ∈ vs, v.t.size ≤ maxLen ∧ v.z.size ≤ maxLen) := hs
  clear hs
  go_enter Tryd.func95, Tryd.ntmps95
  go_wp2
  go_loopw [8] (fun i wr => ∃ k : Nat, k ≤ n ∧ i = .int .i64 k ∧ Hid ((vs.take k).any (fun k => !rowK k) = false) ∧ Hid (Below w.heap.size w wr)) (fun i _ => n - (intOf i).toNat)
  case atStart => exact ⟨0, by omega, rfl, rfl, Below.refl _ _⟩
  case round =>
    obtain ⟨k, hk, rfl, HA, hb⟩ := hrel
    by_cases hlt : k < n
    · obtain ⟨b, off, rfl, hbl, hc⟩ := hcs (by omega)
      obtain ⟨⟨vi, va, vb, vt, vp, vq, vz⟩, hv⟩ : ∃ v, v = vs.getD k zeroR := ⟨_, rfl⟩
      obtain ⟨d0, d1, d2, d3, d4, d5, d6⟩ := RdR.at hc hlt hv
      dsimp only at d0 d1 d2 d3 d4 d5 d6
      have e0 : wr.cell? ⟨b, off + k * 7, none⟩ = some (.int .i64 vi) := by rw [hb.out.cell (p := ⟨b, off + k * 7, none⟩) hbl, d0]
      have e1 : wr.cell? ⟨b, off + k * 7 + 1, none⟩ = some (.int .i64 va) := by rw [hb.out.cell (p := ⟨b, off + k * 7 + 1, none⟩) hbl, d1]
      have e2 : wr.cell? ⟨b, off + k * 7 + 2, none⟩ = some (.int .i64 vb) := by rw [hb.out.cell (p := ⟨b, off + k * 7 + 2, none⟩) hbl, d2]
      have e3 : wr.cell? ⟨b, off + k * 7 + 3, none⟩ = some (.string vt) := by rw [hb.out.cell (p := ⟨b, off + k * 7 + 3, none⟩) hbl, d3]
      have e4 : wr.cell? ⟨b, off + k * 7 + 4, none⟩ = some (.int .i64 vp) := by rw [hb.out.cell (p := ⟨b, off + k * 7 + 4, none⟩) hbl, d4]
      have e5 : wr.cell? ⟨b, off + k * 7 + 5, none⟩ = some (.int .i64 vq) := by rw [hb.out.cell (p := ⟨b, off + k * 7 + 5, none⟩) hbl, d5]
      have e6 : wr.cell? ⟨b, off + k * 7 + 6, none⟩ = some (.string vz) := by rw [hb.out.cell (p := ⟨b, off + k * 7 + 6, none⟩) hbl, d6]
      have hvs : vt.size ≤ maxLen ∧ vz.size ≤ maxLen := by
        have := getD_ofX (d := zeroR) HSZ.out (show k < vs.length by omega)
        rw [← hv] at this
        exact this
      obtain ⟨p, hp⟩ : ∃ p, (!rowK (⟨vi, va, vb, vt, vp, vq, vz⟩ : RW)) = p := ⟨_, rfl⟩
      have HS : Hid ((vs.take (k + 1)).any (fun k => !rowK k) = ((vs.take k).any (fun k => !rowK k) || p)) := by
        unfold Hid
        have hk' : k < vs.length := by omega
        rw [List.take_add_one, List.any_append, List.getElem?_eq_getElem hk', ← hp, hv, List.getD_eq_getElem?_getD, List.getElem?_eq_getElem hk']
        simp
      have HX : Hid (p = true → vs.any (fun k => !rowK k) = true) := fun h => by
        have hk' : k < vs.length := by omega
        rw [List.any_eq_true]
        refine ⟨vs[k], List.getElem_mem hk', ?_⟩
        rw [List.getD_eq_getElem?_getD, List.getElem?_eq_getElem hk'] at hv
        simp only [Option.getD_some] at hv
        rw [← hv]
        exact hp.trans h
      have C : Hid (∀ W : World, Calls Tryd.prog 55 #[.agg #[.int .i64 vi, .int .i64 va, .int .i64 vb, .string vt, .int .i64 vp, .int .i64 vq, .string vz]] W fun e w' => e = .returned (.bool p) ∧ Below W.heap.size W w') := fun W => by rw [← hp]; exact c_noR vi va vb vt vp vq vz W hvs
      clear hc hcs d0 d1 d2 d3 d4 d5 d6 hv hp hvs
      go_wp2_with fail
      refine (C.out wr).mono ?_
      rintro e w1 ⟨rfl, hb1⟩
      have hb' : Hid (Below w.heap.size w w1) := hb.out.trans (hb1.mono hb.out.size)
      clear hb1 e0 e1 e2 e3 e4 e5 e6 C hb
      cases p
      · go_wp2
        go_roundw
        case rel => exact ⟨k + 1, by omega, by go_num, by unfold Hid; rw [HS.out, HA.out]; rfl, hb'⟩
        case measure => simp [intOf]; omega
      · go_wp2
        go_ret
        exact ⟨⟨(k : Int), rfl, by rw [HX.out (by first | rfl | trivial)]; exact decide_eq_true (by omega)⟩, hb'.out⟩
    · have e : k = n := by omega
      subst e
      go_wp2
      go_ret
      refine ⟨⟨-1, rfl, ?_⟩, hb.out⟩
      have := HA.out
      rw [List.take_of_length_le (by omega)] at this
      rw [this]; rfl
set_option maxRecDepth 100000 in
set_option maxHeartbeats 8000000 in
theorem c_contR (a : Option Addr) (n cap : Nat) (vs : List RW) (w : World) (hr : RdR w a n vs) (hn : n ≤ 1048576) (hs : ∀ v ∈ vs, v.t.size ≤ maxLen ∧ v.z.size ≤ maxLen) :
    Calls Tryd.prog 54 #[.slice a n cap, .func (Fn.func 55) #[] #[]] w fun e w' => e = .returned (.bool (vs.any (fun k => !rowK k))) ∧ Below w.heap.size w w' := by
  have C : Hid (Calls Tryd.prog 95 #[.slice a n cap, .func (Fn.func 55) #[] #[]] w fun e w' => (∃ i : Int, e = .returned (.int .i64 i) ∧ decide (0 ≤ i) = vs.any (fun k => !rowK k)) ∧ Below w.heap.size w w') := c_idxR a n cap vs w hr hn hs
  obtain ⟨R, hR⟩ : ∃ b, vs.any (fun k => !rowK k) = b := ⟨_, rfl⟩
  rw [hR] at C ⊢
  clear hr hs hR
  go_enter Tryd.func54, Tryd.ntmps54
  go_wp2_with fail
  refine C.out.mono ?_
  rintro e w1 ⟨⟨i, rfl, hi⟩, hb⟩
  subst hi
  clear C
  by_cases h : 0 ≤ i
  · go_wp2
    go_ret
    exact ⟨by first | rfl | (rw [decide_eq_true h]; rfl), hb⟩
  · go_wp2
    go_ret
    exact ⟨by first | rfl | (rw [decide_eq_false (by omega)]; rfl), hb⟩

end Go.Proofs.YtknjglgellhchaaDoor
