/-
  slices.IndexFunc and ContainsFunc over locks and over waits; whether all are right.
-/
import Derived.Test.YtmjacoocnkcilaaDoorLc
namespace Go.Proofs.YtmjacoocnkcilaaDoor
open Go Go.RowKit
attribute [local go_sem ↓] Go.wp_at_zero Go.wp_at_succ

set_option maxRecDepth 100000 in
set_option maxHeartbeats 4000000 in
theorem c_noK (vx vb vr vm : Int) (w : World) :
    Calls Tryd.prog 75 #[.agg #[.int .i64 vx, .int .i64 vb, .int .i64 vr, .int .i64 vm]] w fun e w' => e = .returned (.bool (!okK ⟨vx, vb, vr, vm⟩)) ∧ Below w.heap.size w w' := by
  go_enter Tryd.func75, Tryd.ntmps75
  go_wp2_with fail
  refine (c_isLock vx vb vr vm _).mono ?_
  rintro e w1 ⟨rfl, hb⟩
  have hb' : Below w.heap.size w w1 := Below.trans ((Below.refl _ _).alloc (Nat.le_refl _) _) (hb.mono (by simp))
  clear hb
  go_wp2
  go_ret
  exact ⟨rfl, hb'⟩

def okW (v : WK) : Bool := inB v.x 1 60 && inB v.f 1 60 && decide (v.x ≠ v.f)
set_option maxRecDepth 100000 in
set_option maxHeartbeats 4000000 in
theorem c_noW (vx vf : Int) (w : World) :
    Calls Tryd.prog 80 #[.agg #[.int .i64 vx, .int .i64 vf]] w fun e w' => e = .returned (.bool (!okW ⟨vx, vf⟩)) ∧ Below w.heap.size w w' := by
  obtain ⟨p1, h1⟩ : ∃ p, inB vx 1 60 = p := ⟨_, rfl⟩
  obtain ⟨p2, h2⟩ : ∃ p, inB vf 1 60 = p := ⟨_, rfl⟩
  have C1 : Hid (∀ W : World, Calls Tryd.prog 56 #[.int .i64 vx] W fun e w' => e = .returned (.bool p1) ∧ w' = W) := fun W => by rw [← h1]; exact c_isTx vx W
  have C2 : Hid (∀ W : World, Calls Tryd.prog 56 #[.int .i64 vf] W fun e w' => e = .returned (.bool p2) ∧ w' = W) := fun W => by rw [← h2]; exact c_isTx vf W
  cases p1
  · have E : Hid ((!okW ⟨vx, vf⟩) = true) := by simp [Hid, okW, h1]
    go_enter Tryd.func80, Tryd.ntmps80
    go_wp2_with fail
    refine (C1.out _).mono ?_
    rintro e w1 ⟨rfl, rfl⟩
    go_wp2
    go_ret
    exact ⟨ret_bool E.out.symm, (Below.refl _ _).alloc (Nat.le_refl _) _⟩
  cases p2
  · have E : Hid ((!okW ⟨vx, vf⟩) = true) := by simp [Hid, okW, h2]
    go_enter Tryd.func80, Tryd.ntmps80
    go_wp2_with fail
    refine (C1.out _).mono ?_
    rintro e w1 ⟨rfl, rfl⟩
    go_wp2_with fail
    refine (C2.out _).mono ?_
    rintro e w1 ⟨rfl, rfl⟩
    go_wp2
    go_ret
    exact ⟨ret_bool E.out.symm, (Below.refl _ _).alloc (Nat.le_refl _) _⟩
  have E : Hid ((!okW ⟨vx, vf⟩) = (vx == vf)) := by
    unfold Hid okW
    rw [h1, h2]
    by_cases h : vx = vf
    · simp [h]
    · simp [h]
  clear h1 h2
  go_enter Tryd.func80, Tryd.ntmps80
  go_wp2_with fail
  refine (C1.out _).mono ?_
  rintro e w1 ⟨rfl, rfl⟩
  go_wp2_with fail
  refine (C2.out _).mono ?_
  rintro e w1 ⟨rfl, rfl⟩
  go_wp2
  go_ret
  exact ⟨ret_bool E.out.symm, (Below.refl _ _).alloc (Nat.le_refl _) _⟩
set_option maxRecDepth 100000 in
set_option maxHeartbeats 4000000 in
theorem c_idxK (a : Option Addr) (n cap : Nat) (vs : List LK) (w : World) (hr : RdK w a n vs) (hn : n ≤ 1048576) :
    Calls Tryd.prog 98 #[.slice a n cap, .func (Fn.func 75) #[] #[]] w fun e w' => (∃ i : Int, e = .returned (.int .i64 i) ∧ decide (0 ≤ i) = vs.any (fun k => !okK k)) ∧ Below w.heap.size w w' := by
  obtain ⟨hl, hcs⟩ := hr
  go_enter Tryd.func98, Tryd.ntmps98
  go_wp2
  go_loopw [8] (fun i wr => ∃ k : Nat, k ≤ n ∧ i = .int .i64 k ∧ Hid ((vs.take k).any (fun k => !okK k) = false) ∧ Hid (Below w.heap.size w wr)) (fun i _ => n - (intOf i).toNat)
  case atStart => exact ⟨0, by omega, rfl, rfl, Below.refl _ _⟩
  case round =>
    obtain ⟨k, hk, rfl, HA, hb⟩ := hrel
    by_cases hlt : k < n
    · obtain ⟨b, off, rfl, hbl, hc⟩ := hcs (by omega)
      obtain ⟨⟨vx, vb, vr, vm⟩, hv⟩ : ∃ v, v = vs.getD k dK := ⟨_, rfl⟩
      obtain ⟨d0, d1, d2, d3⟩ := hc k hlt
      rw [← hv] at d0 d1 d2 d3
      have e0 : wr.cell? ⟨b, off + k * 4, none⟩ = some (.int .i64 vx) := by rw [hb.out.cell (p := ⟨b, off + k * 4, none⟩) hbl, d0]
      have e1 : wr.cell? ⟨b, off + k * 4 + 1, none⟩ = some (.int .i64 vb) := by rw [hb.out.cell (p := ⟨b, off + k * 4 + 1, none⟩) hbl, d1]
      have e2 : wr.cell? ⟨b, off + k * 4 + 2, none⟩ = some (.int .i64 vr) := by rw [hb.out.cell (p := ⟨b, off + k * 4 + 2, none⟩) hbl, d2]
      have e3 : wr.cell? ⟨b, off + k * 4 + 3, none⟩ = some (.int .i64 vm) := by rw [hb.out.cell (p := ⟨b, off + k * 4 + 3, none⟩) hbl, d3]
      obtain ⟨p, hp⟩ : ∃ p, (!okK (⟨vx, vb, vr, vm⟩ : LK)) = p := ⟨_, rfl⟩
      have HS : Hid ((vs.take (k + 1)).any (fun k => !okK k) = ((vs.take k).any (fun k => !okK k) || p)) := by
        unfold Hid
        have hk' : k < vs.length := by omega
        rw [List.take_add_one, List.any_append, List.getElem?_eq_getElem hk', ← hp, hv, List.getD_eq_getElem?_getD, List.getElem?_eq_getElem hk']
        simp
      have HX : Hid (p = true → vs.any (fun k => !okK k) = true) := fun h => by
        have hk' : k < vs.length := by omega
        rw [List.any_eq_true]
        refine ⟨vs[k], List.getElem_mem hk', ?_⟩
        rw [List.getD_eq_getElem?_getD, List.getElem?_eq_getElem hk'] at hv
        simp only [Option.getD_some] at hv
        rw [← hv]
        exact hp.trans h
      have C : Hid (∀ W : World, Calls Tryd.prog 75 #[.agg #[.int .i64 vx, .int .i64 vb, .int .i64 vr, .int .i64 vm]] W fun e w' => e = .returned (.bool p) ∧ Below W.heap.size W w') := fun W => by rw [← hp]; exact c_noK vx vb vr vm W
      clear hc hcs d0 d1 d2 d3 hv hp
      go_wp2_with fail
      refine (C.out wr).mono ?_
      rintro e w1 ⟨rfl, hb1⟩
      have hb' : Hid (Below w.heap.size w w1) := hb.out.trans (hb1.mono hb.out.size)
      clear hb1 e0 e1 e2 e3 C hb
      cases p
      · go_wp2
        go_roundw
        case rel => exact ⟨k + 1, by omega, by go_num, by unfold Hid; rw [HS.out, HA.out]; rfl, hb'⟩
        case measure => simp [intOf]; omega
      · go_wp2
        go_ret
        exact ⟨⟨(k : Int), rfl, by rw [HX.out (by first | rfl | trivial)]; exact decide_eq_true (by omega)⟩, hb'.out⟩
    · have e : k = n := by omega
      subst e
      go_wp2
      go_ret
      refine ⟨⟨-1, rfl, ?_⟩, hb.out⟩
      have := HA.out
      rw [List.take_of_length_le (by omega)] at this
      rw [this]; rfl

set_option maxRecDepth 100000 in
set_option maxHeartbeats 4000000 in
theorem c_contK (a : Option Addr) (n cap : Nat) (vs : List LK) (w : World) (hr : RdK w a n vs) (hn : n ≤ 1048576) :
    Calls Tryd.prog 74 #[.slice a n cap, .func (Fn.func 75) #[] #[]] w fun e w' => e = .returned (.bool (vs.any (fun k => !okK k))) ∧ Below w.heap.size w w' := by
  have C : Hid (Calls Tryd.prog 98 #[.slice a n cap, .func (Fn.func 75) #[] #[]] w fun e w' => (∃ i : Int, e = .returned (.int .i64 i) ∧ decide (0 ≤ i) = vs.any (fun k => !okK k)) ∧ Below w.heap.size w w') := c_idxK a n cap vs w hr hn
  clear hr
  go_enter Tryd.func74, Tryd.ntmps74
  go_wp2_with fail
  refine C.out.mono ?_
  rintro e w1 ⟨⟨i, rfl, hi⟩, hb⟩
  have HI0 : Hid (decide (0 ≤ i) = vs.any (fun k => !okK k)) := hi
  by_cases h : 0 ≤ i
  · have HI : Hid (true = vs.any (fun k => !okK k)) := by unfold Hid; rw [← hi, decide_eq_true h]
    clear hi
    go_wp2
    go_ret
    exact ⟨ret_bool (by first | exact HI.out | exact HI0.out), hb⟩
  · have HI : Hid (false = vs.any (fun k => !okK k)) := by unfold Hid; rw [← hi, decide_eq_false h]
    clear hi
    go_wp2
    go_ret
    exact ⟨ret_bool (by first | exact HI.out | exact HI0.out), hb⟩

set_option maxRecDepth 100000 in
set_option maxHeartbeats 4000000 in
theorem c_areK (a : Option Addr) (n cap : Nat) (vs : List LK) (w : World) (hr : RdK w a n vs) (hn : n ≤ 1048576) :
    Calls Tryd.prog 48 #[.slice a n cap] w fun e w' => e = .returned (.bool (vs.all okK)) ∧ Below w.heap.size w w' := by
  have C : Hid (Calls Tryd.prog 74 #[.slice a n cap, .func (Fn.func 75) #[] #[]] w fun e w' => e = .returned (.bool (vs.any (fun k => !okK k))) ∧ Below w.heap.size w w') := c_contK a n cap vs w hr hn
  have E : Hid ((!(vs.any (fun k => !okK k))) = vs.all okK) := by unfold Hid; rw [List.not_any_eq_all_not]; simp
  clear hr
  go_enter Tryd.func48, Tryd.ntmps48
  go_wp2_with fail
  refine C.out.mono ?_
  rintro e w1 ⟨rfl, hb⟩
  go_wp2
  go_ret
  exact ⟨ret_bool E.out, hb⟩

set_option maxRecDepth 100000 in
set_option maxHeartbeats 4000000 in
theorem c_idxW (a : Option Addr) (n cap : Nat) (vs : List WK) (w : World) (hr : RdW w a n vs) (hn : n ≤ 1048576) :
    Calls Tryd.prog 99 #[.slice a n cap, .func (Fn.func 80) #[] #[]] w fun e w' => (∃ i : Int, e = .returned (.int .i64 i) ∧ decide (0 ≤ i) = vs.any (fun k => !okW k)) ∧ Below w.heap.size w w' := by
  obtain ⟨hl, hcs⟩ := hr
  go_enter Tryd.func99, Tryd.ntmps99
  go_wp2
  go_loopw [8] (fun i wr => ∃ k : Nat, k ≤ n ∧ i = .int .i64 k ∧ Hid ((vs.take k).any (fun k => !okW k) = false) ∧ Hid (Below w.heap.size w wr)) (fun i _ => n - (intOf i).toNat)
  case atStart => exact ⟨0, by omega, rfl, rfl, Below.refl _ _⟩
  case round =>
    obtain ⟨k, hk, rfl, HA, hb⟩ := hrel
    by_cases hlt : k < n
    · obtain ⟨b, off, rfl, hbl, hc⟩ := hcs (by omega)
      obtain ⟨⟨vx, vf⟩, hv⟩ : ∃ v, v = vs.getD k dW := ⟨_, rfl⟩
      obtain ⟨d0, d1⟩ := hc k hlt
      rw [← hv] at d0 d1
      have e0 : wr.cell? ⟨b, off + k * 2, none⟩ = some (.int .i64 vx) := by rw [hb.out.cell (p := ⟨b, off + k * 2, none⟩) hbl, d0]
      have e1 : wr.cell? ⟨b, off + k * 2 + 1, none⟩ = some (.int .i64 vf) := by rw [hb.out.cell (p := ⟨b, off + k * 2 + 1, none⟩) hbl, d1]
      obtain ⟨p, hp⟩ : ∃ p, (!okW (⟨vx, vf⟩ : WK)) = p := ⟨_, rfl⟩
      have HS : Hid ((vs.take (k + 1)).any (fun k => !okW k) = ((vs.take k).any (fun k => !okW k) || p)) := by
        unfold Hid
        have hk' : k < vs.length := by omega
        rw [List.take_add_one, List.any_append, List.getElem?_eq_getElem hk', ← hp, hv, List.getD_eq_getElem?_getD, List.getElem?_eq_getElem hk']
        simp
      have HX : Hid (p = true → vs.any (fun k => !okW k) = true) := fun h => by
        have hk' : k < vs.length := by omega
        rw [List.any_eq_true]
        refine ⟨vs[k], List.getElem_mem hk', ?_⟩
        rw [List.getD_eq_getElem?_getD, List.getElem?_eq_getElem hk'] at hv
        simp only [Option.getD_some] at hv
        rw [← hv]
        exact hp.trans h
      have C : Hid (∀ W : World, Calls Tryd.prog 80 #[.agg #[.int .i64 vx, .int .i64 vf]] W fun e w' => e = .returned (.bool p) ∧ Below W.heap.size W w') := fun W => by rw [← hp]; exact c_noW vx vf W
      clear hc hcs d0 d1 hv hp
      go_wp2_with fail
      refine (C.out wr).mono ?_
      rintro e w1 ⟨rfl, hb1⟩
      have hb' : Hid (Below w.heap.size w w1) := hb.out.trans (hb1.mono hb.out.size)
      clear hb1 e0 e1 C hb
      cases p
      · go_wp2
        go_roundw
        case rel => exact ⟨k + 1, by omega, by go_num, by unfold Hid; rw [HS.out, HA.out]; rfl, hb'⟩
        case measure => simp [intOf]; omega
      · go_wp2
        go_ret
        exact ⟨⟨(k : Int), rfl, by rw [HX.out (by first | rfl | trivial)]; exact decide_eq_true (by omega)⟩, hb'.out⟩
    · have e : k = n := by omega
      subst e
      go_wp2
      go_ret
      refine ⟨⟨-1, rfl, ?_⟩, hb.out⟩
      have := HA.out
      rw [List.take_of_length_le (by omega)] at this
      rw [this]; rfl

set_option maxRecDepth 100000 in
set_option maxHeartbeats 4000000 in
theorem c_contW (a : Option Addr) (n cap : Nat) (vs : List WK) (w : World) (hr : RdW w a n vs) (hn : n ≤ 1048576) :
    Calls Tryd.prog 79 #[.slice a n cap, .func (Fn.func 80) #[] #[]] w fun e w' => e = .returned (.bool (vs.any (fun k => !okW k))) ∧ Below w.heap.size w w' := by
  have C : Hid (Calls Tryd.prog 99 #[.slice a n cap, .func (Fn.func 80) #[] #[]] w fun e w' => (∃ i : Int, e = .returned (.int .i64 i) ∧ decide (0 ≤ i) = vs.any (fun k => !okW k)) ∧ Below w.heap.size w w') := c_idxW a n cap vs w hr hn
  clear hr
  go_enter Tryd.func79, Tryd.ntmps79
  go_wp2_with fail
  refine C.out.mono ?_
  rintro e w1 ⟨⟨i, rfl, hi⟩, hb⟩
  have HI0 : Hid (decide (0 ≤ i) = vs.any (fun k => !okW k)) := hi
  by_cases h : 0 ≤ i
  · have HI : Hid (true = vs.any (fun k => !okW k)) := by unfold Hid; rw [← hi, decide_eq_true h]
    clear hi
    go_wp2
    go_ret
    exact ⟨ret_bool (by first | exact HI.out | exact HI0.out), hb⟩
  · have HI : Hid (false = vs.any (fun k => !okW k)) := by unfold Hid; rw [← hi, decide_eq_false h]
    clear hi
    go_wp2
    go_ret
    exact ⟨ret_bool (by first | exact HI.out | exact HI0.out), hb⟩

set_option maxRecDepth 100000 in
set_option maxHeartbeats 4000000 in
theorem c_areW (a : Option Addr) (n cap : Nat) (vs : List WK) (w : World) (hr : RdW w a n vs) (hn : n ≤ 1048576) :
    Calls Tryd.prog 50 #[.slice a n cap] w fun e w' => e = .returned (.bool (vs.all okW)) ∧ Below w.heap.size w w' := by
  have C : Hid (Calls Tryd.prog 79 #[.slice a n cap, .func (Fn.func 80) #[] #[]] w fun e w' => e = .returned (.bool (vs.any (fun k => !okW k))) ∧ Below w.heap.size w w') := c_contW a n cap vs w hr hn
  have E : Hid ((!(vs.any (fun k => !okW k))) = vs.all okW) := by unfold Hid; rw [List.not_any_eq_all_not]; simp
  clear hr
  go_enter Tryd.func50, Tryd.ntmps50
  go_wp2_with fail
  refine C.out.mono ?_
  rintro e w1 ⟨rfl, hb⟩
  go_wp2
  go_ret
  exact ⟨ret_bool E.out, hb⟩


end Go.Proofs.YtmjacoocnkcilaaDoor
