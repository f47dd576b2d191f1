/-
  Right engines: locks and waits are of transactions: the program's areOfTxs.
-/
import Derived.Test.YtfibdpfhfgnbiaaGreatDoorZzat
import Derived.Test.YtfibdpfhfgnbiaaGreatDoorZzaq
import Derived.Test.YtfibdpfhfgnbiaaGreatDoorZzas
import Derived.Test.YtfibdpfhfgnbiaaGreatDoorZzau
namespace Go.Proofs.YtfibdpfhfgnbiaaGreatDoor
open Go Go.RowKit
attribute [local go_sem ↓] Go.wp_at_zero Go.wp_at_succ

set_option maxRecDepth 100000 in
set_option maxHeartbeats 4000000 in
theorem c_idxT (a : Option Addr) (n cap : Nat) (vs : List X.WK) (pr : X.WK → Bool) (bp : Nat) (w : World) (hr : X.RdW w a n vs) (hn : n ≤ 1048576) (hf : ∀ v ∈ vs, ∀ W, Below w.heap.size w W → Calls Tryz.prog 141 #[.agg #[.int .i64 v.x, .int .i64 v.f], .pointer (some ⟨bp, 0, none⟩)] W fun e w' => e = .returned (.bool (pr v)) ∧ Below W.heap.size W w') :
    Calls Tryz.prog 218 #[.slice a n cap, .func (Fn.func 141) #[] #[.pointer (some ⟨bp, 0, none⟩)]] w fun e w' => (∃ i : Int, e = .returned (.int .i64 i) ∧ decide (0 ≤ i) = vs.any pr) ∧ Below w.heap.size w w' := by
  obtain ⟨hl, hcs⟩ := hr
  have HF : Hid (∀ v ∈ vs, ∀ W, Below w.heap.size w W → Calls Tryz.prog 141 #[.agg #[.int .i64 v.x, .int .i64 v.f], .pointer (some ⟨bp, 0, none⟩)] W fun e w' => e = .returned (.bool (pr v)) ∧ Below W.heap.size W w') := hf
  clear hf
  go_enter Tryz.func218, Tryz.ntmps218
  go_wp2
  go_loopw [8] (fun i wr => ∃ k : Nat, k ≤ n ∧ i = .int .i64 k ∧ Hid ((vs.take k).any pr = false) ∧ Hid (Below w.heap.size w wr)) (fun i _ => n - (intOf i).toNat)
  case atStart => exact ⟨0, by omega, rfl, rfl, Below.refl _ _⟩
  case round =>
    obtain ⟨k, hk, rfl, HA, hb⟩ := hrel
    by_cases hlt : k < n
    · obtain ⟨b, off, rfl, hbl, hc⟩ := hcs (by omega)
      have hk' : k < vs.length := by omega
      obtain ⟨⟨vx, vf⟩, hv⟩ : ∃ v, v = vs.getD k X.dW := ⟨_, rfl⟩
      obtain ⟨d0, d1⟩ := hc k hlt
      rw [← hv] at d0 d1
      dsimp only at d0 d1
      have e0 := (hb.out.cell (p := ⟨b, off + k * 2, none⟩) hbl).trans d0
      have e1 := (hb.out.cell (p := ⟨b, off + k * 2 + 1, none⟩) hbl).trans d1
      have hmem : (⟨vx, vf⟩ : X.WK) ∈ vs := by rw [hv, List.getD_eq_getElem?_getD, List.getElem?_eq_getElem hk']; exact List.getElem_mem hk'
      obtain ⟨p, hp⟩ : ∃ p, pr ⟨vx, vf⟩ = p := ⟨_, rfl⟩
      have HS : Hid ((vs.take (k + 1)).any pr = ((vs.take k).any pr || p)) := by
        unfold Hid
        rw [List.take_add_one, List.any_append, List.getElem?_eq_getElem hk', ← hp, hv, List.getD_eq_getElem?_getD, List.getElem?_eq_getElem hk']
        simp
      have HX : Hid (p = true → vs.any pr = true) := fun h => by
        rw [List.any_eq_true]
        exact ⟨_, hmem, hp.trans h⟩
      have C : Hid (∀ W, Below w.heap.size w W → Calls Tryz.prog 141 #[.agg #[.int .i64 vx, .int .i64 vf], .pointer (some ⟨bp, 0, none⟩)] W fun e w' => e = .returned (.bool p) ∧ Below W.heap.size W w') := by
        rw [← hp]
        exact HF.out _ hmem
      clear hc hcs d0 d1 hv hp hmem HF
      go_wp2_with fail
      refine (C.out wr hb.out).mono ?_
      rintro e w1 ⟨rfl, hb1⟩
      have hb' : Hid (Below w.heap.size w w1) := hb.out.trans (hb1.mono hb.out.size)
      clear hb1 e0 e1 C hb
      cases p
      · go_wp2
        go_roundw
        case rel => exact ⟨k + 1, by omega, by go_num, by unfold Hid; rw [HS.out, HA.out]; rfl, hb'⟩
        case measure => simp [intOf]; omega
      · go_wp2
        go_ret
        exact ⟨⟨(k : Int), rfl, by rw [HX.out (by first | rfl | trivial)]; exact decide_eq_true (by omega)⟩, hb'.out⟩
    · have e : k = n := by omega
      subst e
      go_wp2
      go_ret
      refine ⟨⟨-1, rfl, ?_⟩, hb.out⟩
      have := HA.out
      rw [List.take_of_length_le (by omega)] at this
      rw [this]; rfl
set_option maxRecDepth 100000 in
set_option maxHeartbeats 4000000 in
theorem c_conT (a : Option Addr) (n cap : Nat) (vs : List X.WK) (pr : X.WK → Bool) (bp : Nat) (w : World) (hr : X.RdW w a n vs) (hn : n ≤ 1048576) (hf : ∀ v ∈ vs, ∀ W, Below w.heap.size w W → Calls Tryz.prog 141 #[.agg #[.int .i64 v.x, .int .i64 v.f], .pointer (some ⟨bp, 0, none⟩)] W fun e w' => e = .returned (.bool (pr v)) ∧ Below W.heap.size W w') :
    Calls Tryz.prog 140 #[.slice a n cap, .func (Fn.func 141) #[] #[.pointer (some ⟨bp, 0, none⟩)]] w fun e w' => e = .returned (.bool (vs.any pr)) ∧ Below w.heap.size w w' := by
  have C : Hid (Calls Tryz.prog 218 #[.slice a n cap, .func (Fn.func 141) #[] #[.pointer (some ⟨bp, 0, none⟩)]] w fun e w' => (∃ i : Int, e = .returned (.int .i64 i) ∧ decide (0 ≤ i) = vs.any pr) ∧ Below w.heap.size w w') := c_idxT a n cap vs pr bp w hr hn hf
  clear hr hf
  go_enter Tryz.func140, Tryz.ntmps140
  go_wp2_with fail
  refine C.out.mono ?_
  rintro e w1 ⟨⟨i, rfl, hi⟩, hb⟩
  have HI : Hid (decide (0 ≤ i) = vs.any pr) := hi
  have HB : Hid (Below w.heap.size w w1) := hb
  clear hi hb C
  go_wp2
  go_ret
  exact ⟨ret_bool HI.out, HB.out⟩
set_option maxRecDepth 100000 in
set_option maxHeartbeats 4000000 in
theorem c_idxK (a : Option Addr) (n cap : Nat) (vs : List L.LK) (pr : L.LK → Bool) (bp : Nat) (w : World) (hr : L.RdK w a n vs) (hn : n ≤ 1048576) (hf : ∀ v ∈ vs, ∀ W, Below w.heap.size w W → Calls Tryz.prog 136 #[.agg #[.int .i64 v.x, .int .i64 v.b, .int .i64 v.r, .int .i64 v.m], .pointer (some ⟨bp, 0, none⟩)] W fun e w' => e = .returned (.bool (pr v)) ∧ Below W.heap.size W w') :
    Calls Tryz.prog 216 #[.slice a n cap, .func (Fn.func 136) #[] #[.pointer (some ⟨bp, 0, none⟩)]] w fun e w' => (∃ i : Int, e = .returned (.int .i64 i) ∧ decide (0 ≤ i) = vs.any pr) ∧ Below w.heap.size w w' := by
  obtain ⟨hl, hcs⟩ := hr
  have HF : Hid (∀ v ∈ vs, ∀ W, Below w.heap.size w W → Calls Tryz.prog 136 #[.agg #[.int .i64 v.x, .int .i64 v.b, .int .i64 v.r, .int .i64 v.m], .pointer (some ⟨bp, 0, none⟩)] W fun e w' => e = .returned (.bool (pr v)) ∧ Below W.heap.size W w') := hf
  clear hf
  go_enter Tryz.func216, Tryz.ntmps216
  go_wp2
  go_loopw [8] (fun i wr => ∃ k : Nat, k ≤ n ∧ i = .int .i64 k ∧ Hid ((vs.take k).any pr = false) ∧ Hid (Below w.heap.size w wr)) (fun i _ => n - (intOf i).toNat)
  case atStart => exact ⟨0, by omega, rfl, rfl, Below.refl _ _⟩
  case round =>
    obtain ⟨k, hk, rfl, HA, hb⟩ := hrel
    by_cases hlt : k < n
    · obtain ⟨b, off, rfl, hbl, hc⟩ := hcs (by omega)
      have hk' : k < vs.length := by omega
      obtain ⟨⟨vx, vb, vr, vm⟩, hv⟩ : ∃ v, v = vs.getD k L.dK := ⟨_, rfl⟩
      obtain ⟨d0, d1, d2, d3⟩ := hc k hlt
      rw [← hv] at d0 d1 d2 d3
      dsimp only at d0 d1 d2 d3
      have e0 := (hb.out.cell (p := ⟨b, off + k * 4, none⟩) hbl).trans d0
      have e1 := (hb.out.cell (p := ⟨b, off + k * 4 + 1, none⟩) hbl).trans d1
      have e2 := (hb.out.cell (p := ⟨b, off + k * 4 + 2, none⟩) hbl).trans d2
      have e3 := (hb.out.cell (p := ⟨b, off + k * 4 + 3, none⟩) hbl).trans d3
      have hmem : (⟨vx, vb, vr, vm⟩ : L.LK) ∈ vs := by rw [hv, List.getD_eq_getElem?_getD, List.getElem?_eq_getElem hk']; exact List.getElem_mem hk'
      obtain ⟨p, hp⟩ : ∃ p, pr ⟨vx, vb, vr, vm⟩ = p := ⟨_, rfl⟩
      have HS : Hid ((vs.take (k + 1)).any pr = ((vs.take k).any pr || p)) := by
        unfold Hid
        rw [List.take_add_one, List.any_append, List.getElem?_eq_getElem hk', ← hp, hv, List.getD_eq_getElem?_getD, List.getElem?_eq_getElem hk']
        simp
      have HX : Hid (p = true → vs.any pr = true) := fun h => by
        rw [List.any_eq_true]
        exact ⟨_, hmem, hp.trans h⟩
      have C : Hid (∀ W, Below w.heap.size w W → Calls Tryz.prog 136 #[.agg #[.int .i64 vx, .int .i64 vb, .int .i64 vr, .int .i64 vm], .pointer (some ⟨bp, 0, none⟩)] W fun e w' => e = .returned (.bool p) ∧ Below W.heap.size W w') := by
        rw [← hp]
        exact HF.out _ hmem
      clear hc hcs d0 d1 d2 d3 hv hp hmem HF
      go_wp2_with fail
      refine (C.out wr hb.out).mono ?_
      rintro e w1 ⟨rfl, hb1⟩
      have hb' : Hid (Below w.heap.size w w1) := hb.out.trans (hb1.mono hb.out.size)
      clear hb1 e0 e1 e2 e3 C hb
      cases p
      · go_wp2
        go_roundw
        case rel => exact ⟨k + 1, by omega, by go_num, by unfold Hid; rw [HS.out, HA.out]; rfl, hb'⟩
        case measure => simp [intOf]; omega
      · go_wp2
        go_ret
        exact ⟨⟨(k : Int), rfl, by rw [HX.out (by first | rfl | trivial)]; exact decide_eq_true (by omega)⟩, hb'.out⟩
    · have e : k = n := by omega
      subst e
      go_wp2
      go_ret
      refine ⟨⟨-1, rfl, ?_⟩, hb.out⟩
      have := HA.out
      rw [List.take_of_length_le (by omega)] at this
      rw [this]; rfl
set_option maxRecDepth 100000 in
set_option maxHeartbeats 4000000 in
theorem c_conK (a : Option Addr) (n cap : Nat) (vs : List L.LK) (pr : L.LK → Bool) (bp : Nat) (w : World) (hr : L.RdK w a n vs) (hn : n ≤ 1048576) (hf : ∀ v ∈ vs, ∀ W, Below w.heap.size w W → Calls Tryz.prog 136 #[.agg #[.int .i64 v.x, .int .i64 v.b, .int .i64 v.r, .int .i64 v.m], .pointer (some ⟨bp, 0, none⟩)] W fun e w' => e = .returned (.bool (pr v)) ∧ Below W.heap.size W w') :
    Calls Tryz.prog 135 #[.slice a n cap, .func (Fn.func 136) #[] #[.pointer (some ⟨bp, 0, none⟩)]] w fun e w' => e = .returned (.bool (vs.any pr)) ∧ Below w.heap.size w w' := by
  have C : Hid (Calls Tryz.prog 216 #[.slice a n cap, .func (Fn.func 136) #[] #[.pointer (some ⟨bp, 0, none⟩)]] w fun e w' => (∃ i : Int, e = .returned (.int .i64 i) ∧ decide (0 ≤ i) = vs.any pr) ∧ Below w.heap.size w w') := c_idxK a n cap vs pr bp w hr hn hf
  clear hr hf
  go_enter Tryz.func135, Tryz.ntmps135
  go_wp2_with fail
  refine C.out.mono ?_
  rintro e w1 ⟨⟨i, rfl, hi⟩, hb⟩
  have HI : Hid (decide (0 ≤ i) = vs.any pr) := hi
  have HB : Hid (Below w.heap.size w w1) := hb
  clear hi hb C
  go_wp2
  go_ret
  exact ⟨ret_bool HI.out, HB.out⟩
set_option maxRecDepth 100000 in
set_option maxHeartbeats 4000000 in
theorem c_idxW (a : Option Addr) (n cap : Nat) (vs : List L.WK) (pr : L.WK → Bool) (bp : Nat) (w : World) (hr : L.RdW w a n vs) (hn : n ≤ 1048576) (hf : ∀ v ∈ vs, ∀ W, Below w.heap.size w W → Calls Tryz.prog 139 #[.agg #[.int .i64 v.x, .int .i64 v.f], .pointer (some ⟨bp, 0, none⟩)] W fun e w' => e = .returned (.bool (pr v)) ∧ Below W.heap.size W w') :
    Calls Tryz.prog 217 #[.slice a n cap, .func (Fn.func 139) #[] #[.pointer (some ⟨bp, 0, none⟩)]] w fun e w' => (∃ i : Int, e = .returned (.int .i64 i) ∧ decide (0 ≤ i) = vs.any pr) ∧ Below w.heap.size w w' := by
  obtain ⟨hl, hcs⟩ := hr
  have HF : Hid (∀ v ∈ vs, ∀ W, Below w.heap.size w W → Calls Tryz.prog 139 #[.agg #[.int .i64 v.x, .int .i64 v.f], .pointer (some ⟨bp, 0, none⟩)] W fun e w' => e = .returned (.bool (pr v)) ∧ Below W.heap.size W w') := hf
  clear hf
  go_enter Tryz.func217, Tryz.ntmps217
  go_wp2
  go_loopw [8] (fun i wr => ∃ k : Nat, k ≤ n ∧ i = .int .i64 k ∧ Hid ((vs.take k).any pr = false) ∧ Hid (Below w.heap.size w wr)) (fun i _ => n - (intOf i).toNat)
  case atStart => exact ⟨0, by omega, rfl, rfl, Below.refl _ _⟩
  case round =>
    obtain ⟨k, hk, rfl, HA, hb⟩ := hrel
    by_cases hlt : k < n
    · obtain ⟨b, off, rfl, hbl, hc⟩ := hcs (by omega)
      have hk' : k < vs.length := by omega
      obtain ⟨⟨vx, vf⟩, hv⟩ : ∃ v, v = vs.getD k L.dW := ⟨_, rfl⟩
      obtain ⟨d0, d1⟩ := hc k hlt
      rw [← hv] at d0 d1
      dsimp only at d0 d1
      have e0 := (hb.out.cell (p := ⟨b, off + k * 2, none⟩) hbl).trans d0
      have e1 := (hb.out.cell (p := ⟨b, off + k * 2 + 1, none⟩) hbl).trans d1
      have hmem : (⟨vx, vf⟩ : L.WK) ∈ vs := by rw [hv, List.getD_eq_getElem?_getD, List.getElem?_eq_getElem hk']; exact List.getElem_mem hk'
      obtain ⟨p, hp⟩ : ∃ p, pr ⟨vx, vf⟩ = p := ⟨_, rfl⟩
      have HS : Hid ((vs.take (k + 1)).any pr = ((vs.take k).any pr || p)) := by
        unfold Hid
        rw [List.take_add_one, List.any_append, List.getElem?_eq_getElem hk', ← hp, hv, List.getD_eq_getElem?_getD, List.getElem?_eq_getElem hk']
        simp
      have HX : Hid (p = true → vs.any pr = true) := fun h => by
        rw [List.any_eq_true]
        exact ⟨_, hmem, hp.trans h⟩
      have C : Hid (∀ W, Below w.heap.size w W → Calls Tryz.prog 139 #[.agg #[.int .i64 vx, .int .i64 vf], .pointer (some ⟨bp, 0, none⟩)] W fun e w' => e = .returned (.bool p) ∧ Below W.heap.size W w') := by
        rw [← hp]
        exact HF.out _ hmem
      clear hc hcs d0 d1 hv hp hmem HF
      go_wp2_with fail
      refine (C.out wr hb.out).mono ?_
      rintro e w1 ⟨rfl, hb1⟩
      have hb' : Hid (Below w.heap.size w w1) := hb.out.trans (hb1.mono hb.out.size)
      clear hb1 e0 e1 C hb
      cases p
      · go_wp2
        go_roundw
        case rel => exact ⟨k + 1, by omega, by go_num, by unfold Hid; rw [HS.out, HA.out]; rfl, hb'⟩
        case measure => simp [intOf]; omega
      · go_wp2
        go_ret
        exact ⟨⟨(k : Int), rfl, by rw [HX.out (by first | rfl | trivial)]; exact decide_eq_true (by omega)⟩, hb'.out⟩
    · have e : k = n := by omega
      subst e
      go_wp2
      go_ret
      refine ⟨⟨-1, rfl, ?_⟩, hb.out⟩
      have := HA.out
      rw [List.take_of_length_le (by omega)] at this
      rw [this]; rfl
set_option maxRecDepth 100000 in
set_option maxHeartbeats 4000000 in
theorem c_conW (a : Option Addr) (n cap : Nat) (vs : List L.WK) (pr : L.WK → Bool) (bp : Nat) (w : World) (hr : L.RdW w a n vs) (hn : n ≤ 1048576) (hf : ∀ v ∈ vs, ∀ W, Below w.heap.size w W → Calls Tryz.prog 139 #[.agg #[.int .i64 v.x, .int .i64 v.f], .pointer (some ⟨bp, 0, none⟩)] W fun e w' => e = .returned (.bool (pr v)) ∧ Below W.heap.size W w') :
    Calls Tryz.prog 138 #[.slice a n cap, .func (Fn.func 139) #[] #[.pointer (some ⟨bp, 0, none⟩)]] w fun e w' => e = .returned (.bool (vs.any pr)) ∧ Below w.heap.size w w' := by
  have C : Hid (Calls Tryz.prog 217 #[.slice a n cap, .func (Fn.func 139) #[] #[.pointer (some ⟨bp, 0, none⟩)]] w fun e w' => (∃ i : Int, e = .returned (.int .i64 i) ∧ decide (0 ≤ i) = vs.any pr) ∧ Below w.heap.size w w') := c_idxW a n cap vs pr bp w hr hn hf
  clear hr hf
  go_enter Tryz.func138, Tryz.ntmps138
  go_wp2_with fail
  refine C.out.mono ?_
  rintro e w1 ⟨⟨i, rfl, hi⟩, hb⟩
  have HI : Hid (decide (0 ≤ i) = vs.any pr) := hi
  have HB : Hid (Below w.heap.size w w1) := hb
  clear hi hb C
  go_wp2
  go_ret
  exact ⟨ret_bool HI.out, HB.out⟩
set_option maxRecDepth 100000 in
set_option maxHeartbeats 4000000 in
theorem c_lnk1 (a : Option Addr) (n cap : Nat) (L : List DR) (vx vf : Int) (bp : Nat) (w : World) (hb : w.cell? ⟨bp, 0, none⟩ = some (.slice a n cap)) (hr : RdQ w a n L) (hn : n ≤ 1048576) (hp : Plc L) :
    Calls Tryz.prog 141 #[.agg #[.int .i64 vx, .int .i64 vf], .pointer (some ⟨bp, 0, none⟩)] w fun e w' => e = .returned (.bool (!lnk L vx vf)) ∧ Below w.heap.size w w' := by
  obtain ⟨V, hV⟩ : ∃ V, w.alloc (.cells #[.int .i64 vx, .int .i64 vf] 95) = V := ⟨_, rfl⟩
  have hbA : Below w.heap.size w V := by rw [← hV]; exact (Below.refl _ _).alloc (Nat.le_refl _) _
  have X0 : Box V w.heap.size 95 #[.int .i64 vx, .int .i64 vf] := by rw [← hV]; exact Box.new _ _ _
  obtain ⟨x0, x1⟩ := G.box2 X0
  have e0 : V.cell? ⟨bp, 0, none⟩ = some (.slice a n cap) := far6 hbA hb
  have C := c_isLinked a n cap L vx vf V (hr.below hbA) hn hp
  have B0 : Hid (Below w.heap.size w V) := hbA
  clear hr hp hbA X0 hb
  go_enter Tryz.func141, Tryz.ntmps141
  go_wp2_with fail
  refine C.mono ?_
  rintro e w1 ⟨rfl, hb1⟩
  have B1 : Hid (Below w.heap.size w w1) := B0.out.trans (hb1.mono B0.out.size)
  clear hb1 C B0 hV x0 x1 e0
  go_wp2
  go_ret
  exact ⟨rfl, B1.out⟩
set_option maxRecDepth 100000 in
set_option maxHeartbeats 4000000 in
theorem c_areLinked (a : Option Addr) (n cap : Nat) (L : List DR) (ta : Option Addr) (tn tc : Nat) (T : List X.WK) (w : World) (hr : RdQ w a n L) (hn : n ≤ 1048576) (hp : Plc L) (rt : X.RdW w ta tn T) (htn : tn ≤ 1048576) :
    Calls Tryz.prog 63 #[.slice a n cap, .slice ta tn tc] w fun e w' => e = .returned (.bool (T.all fun v => lnk L v.x v.f)) ∧ Below w.heap.size w w' := by
  obtain ⟨V, hV⟩ : ∃ V, w.alloc (.cells #[.slice a n cap] 43) = V := ⟨_, rfl⟩
  have hbA : Below w.heap.size w V := by rw [← hV]; exact (Below.refl _ _).alloc (Nat.le_refl _) _
  have X0 : Box V w.heap.size 43 #[.slice a n cap] := by rw [← hV]; exact Box.new _ _ _
  have x0 : V.cell? ⟨w.heap.size, 0, none⟩ = some (.slice a n cap) := X0.cell 0
  have C := c_conT ta tn tc T (fun v => !lnk L v.x v.f) w.heap.size V (rt.below hbA) htn (fun v _ W hW => c_lnk1 a n cap L v.x v.f w.heap.size W (far6 hW x0) ((hr.below hbA).below hW) hn hp)
  have EQ : Hid ((!(T.any fun v => !lnk L v.x v.f)) = T.all fun v => lnk L v.x v.f) := by unfold Hid; rw [List.all_eq_not_any_not]
  have B0 : Hid (Below w.heap.size w V) := hbA
  have C' : Hid (Calls _ _ _ _ _) := C
  clear hr hp rt hbA X0 x0 C
  go_enter Tryz.func63, Tryz.ntmps63
  go_wp2_with fail
  refine C'.out.mono ?_
  rintro e w1 ⟨rfl, hb1⟩
  have B1 : Hid (Below w.heap.size w w1) := B0.out.trans (hb1.mono B0.out.size)
  clear hb1 C' B0 hV
  go_wp2
  go_ret
  exact ⟨ret_bool EQ.out, B1.out⟩

end Go.Proofs.YtfibdpfhfgnbiaaGreatDoor
namespace Go.Proofs.YtfibdpfhfgnbiaaGreatDoor
open Go Go.RowKit
attribute [local go_sem ↓] Go.wp_at_zero Go.wp_at_succ

/-- The transactions' numbers, as a set of bits. -/
def idsT (s : L.B64) : List X.WK → L.B64
  | [] => s
  | v :: vs => idsT (L.orT s (L.bitT v.x)) vs
theorem idsT_at {s : L.B64} {vs : List X.WK} {k : Nat} (h : k < vs.length) : idsT s (vs.drop k) = idsT (L.orT s (L.bitT (vs.getD k X.dW).x)) (vs.drop (k + 1)) := by
  rw [List.drop_eq_getElem_cons h, List.getD_eq_getElem?_getD, List.getElem?_eq_getElem h]
  rfl
theorem idsT_in : ∀ (vs : List X.WK) (s : L.B64) (y : Int), (∀ v ∈ vs, 0 ≤ v.x ∧ v.x < 64) → 0 ≤ y → L.inT (idsT s vs) y = (L.inT s y || vs.any fun v => decide (v.x = y))
  | [], s, y, _, _ => by simp [idsT]
  | v :: vs, s, y, h, hy => by
    have hv := h v (by simp)
    show L.inT (idsT (L.orT s (L.bitT v.x)) vs) y = _
    rw [idsT_in vs _ y (fun u hu => h u (by simp [hu])) hy, L.inT_or hv.1 hv.2 hy, List.any_cons, Bool.or_assoc]
theorem inT_zero (y : Int) : L.inT 0#64 y = false := by unfold L.inT; simp
/-- A number is a transaction's. -/
def isT (T : List X.WK) (y : Int) : Bool := T.any fun v => decide (v.x = y)
theorem isT_in {T : List X.WK} (h : ∀ v ∈ T, 0 ≤ v.x ∧ v.x < 64) {y : Int} (hy : 0 ≤ y) : L.inT (idsT 0#64 T) y = isT T y := by
  rw [idsT_in T _ y h hy, inT_zero, Bool.false_or]
  rfl
theorem any_same {α : Type} : ∀ (l : List α) {p q : α → Bool}, (∀ v ∈ l, p v = q v) → l.any p = l.any q
  | [], _, _, _ => rfl
  | a :: l, p, q, h => by rw [List.any_cons, List.any_cons, h a (by simp), any_same l fun v hv => h v (by simp [hv])]
set_option maxRecDepth 100000 in
set_option maxHeartbeats 4000000 in
theorem c_ofK (s : L.B64) (vx vb vr vm : Int) (bp : Nat) (w : World) (hb : w.cell? ⟨bp, 0, none⟩ = some (.int .u64 (s.toNat : Int))) (h0 : 0 ≤ vx) (h1 : vx < 64) :
    Calls Tryz.prog 136 #[.agg #[.int .i64 vx, .int .i64 vb, .int .i64 vr, .int .i64 vm], .pointer (some ⟨bp, 0, none⟩)] w fun e w' => e = .returned (.bool (!L.inT s vx)) ∧ Below w.heap.size w w' := by
  obtain ⟨V, hV⟩ : ∃ V, w.alloc (.cells #[.int .i64 vx, .int .i64 vb, .int .i64 vr, .int .i64 vm] 98) = V := ⟨_, rfl⟩
  have hbA : Below w.heap.size w V := by rw [← hV]; exact (Below.refl _ _).alloc (Nat.le_refl _) _
  have X0 : Box V w.heap.size 98 #[.int .i64 vx, .int .i64 vb, .int .i64 vr, .int .i64 vm] := by rw [← hV]; exact Box.new _ _ _
  have x0 : V.cell? ⟨w.heap.size, 0, none⟩ = some (.int .i64 vx) := X0.cell 0
  have e0 : V.cell? ⟨bp, 0, none⟩ = some (.int .u64 (s.toNat : Int)) := far6 hbA hb
  have C := L.c_has s vx V h0 h1
  have B0 : Hid (Below w.heap.size w V) := hbA
  clear hbA X0 hb
  go_enter Tryz.func136, Tryz.ntmps136
  go_wp2_with fail
  refine C.mono ?_
  rintro e w1 ⟨rfl, rfl⟩
  clear C hV x0 e0
  go_wp2
  go_ret
  exact ⟨rfl, B0.out⟩
set_option maxRecDepth 100000 in
set_option maxHeartbeats 4000000 in
theorem c_ofW (s : L.B64) (vx vf : Int) (bp : Nat) (w : World) (hb : w.cell? ⟨bp, 0, none⟩ = some (.int .u64 (s.toNat : Int))) (h0 : 0 ≤ vx) (h1 : vx < 64) (h2 : 0 ≤ vf) (h3 : vf < 64) :
    Calls Tryz.prog 139 #[.agg #[.int .i64 vx, .int .i64 vf], .pointer (some ⟨bp, 0, none⟩)] w fun e w' => e = .returned (.bool (!L.inT s vx || !L.inT s vf)) ∧ Below w.heap.size w w' := by
  obtain ⟨V, hV⟩ : ∃ V, w.alloc (.cells #[.int .i64 vx, .int .i64 vf] 100) = V := ⟨_, rfl⟩
  have hbA : Below w.heap.size w V := by rw [← hV]; exact (Below.refl _ _).alloc (Nat.le_refl _) _
  have X0 : Box V w.heap.size 100 #[.int .i64 vx, .int .i64 vf] := by rw [← hV]; exact Box.new _ _ _
  obtain ⟨x0, x1⟩ := G.box2 X0
  have e0 : V.cell? ⟨bp, 0, none⟩ = some (.int .u64 (s.toNat : Int)) := far6 hbA hb
  have C1 := L.c_has s vx V h0 h1
  have C2 := L.c_has s vf V h2 h3
  have B0 : Hid (Below w.heap.size w V) := hbA
  clear hbA X0 hb
  go_enter Tryz.func139, Tryz.ntmps139
  go_wp2_with fail
  refine C1.mono ?_
  rintro e w1 ⟨rfl, rfl⟩
  obtain ⟨p, hp⟩ : ∃ p, p = L.inT s vx := ⟨_, rfl⟩
  rw [← hp]
  have HP : Hid (p = L.inT s vx) := hp
  clear hp C1
  cases p
  · go_wp2
    go_ret
    exact ⟨ret_bool (by rw [← HP.out]; rfl), B0.out⟩
  · go_wp2_with fail
    refine C2.mono ?_
    rintro e w1 ⟨rfl, rfl⟩
    go_wp2
    go_ret
    exact ⟨ret_bool (by rw [← HP.out]; rfl), B0.out⟩
set_option maxRecDepth 100000 in
set_option maxHeartbeats 4000000 in
theorem c_areOf (k : L.HL) (K : List L.LK) (Wt : List L.WK) (ta : Option Addr) (tn tc : Nat) (T : List X.WK) (w : World) (rk : L.RdL w k K Wt) (f0 : K.length ≤ 1048576) (f1 : Wt.length ≤ 1048576) (rt : X.RdW w ta tn T) (htn : tn ≤ 1048576) (ht : ∀ v ∈ T, 0 ≤ v.x ∧ v.x < 64) (hk : ∀ v ∈ K, 0 ≤ v.x ∧ v.x < 64) (hw : ∀ v ∈ Wt, (0 ≤ v.x ∧ v.x < 64) ∧ 0 ≤ v.f ∧ v.f < 64) :
    Calls Tryz.prog 62 #[.agg #[.slice k.a0 K.length k.c0, .slice k.a1 Wt.length k.c1], .slice ta tn tc] w fun e w' => e = .returned (.bool ((K.all fun v => isT T v.x) && Wt.all fun v => isT T v.x && isT T v.f)) ∧ Below w.heap.size w w' := by
  obtain ⟨V, hV⟩ : ∃ V, (w.alloc (.cells #[.slice k.a0 K.length k.c0, .slice k.a1 Wt.length k.c1] 51)).alloc (.cells #[.int .u64 0] 168) = V := ⟨_, rfl⟩
  have B0 : Hid (Below w.heap.size w V) := by unfold Hid; rw [← hV]; exact ((Below.refl _ _).alloc (Nat.le_refl _) _).alloc (by simp) _
  have X0 : Hid (Box V w.heap.size 51 #[.slice k.a0 K.length k.c0, .slice k.a1 Wt.length k.c1]) := by unfold Hid; rw [← hV]; exact (Box.new _ _ _).alloc _
  have S0 : Hid (Box V (w.heap.size + 1) 168 #[.int .u64 (((0#64 : L.B64).toNat : Nat) : Int)]) := by unfold Hid; rw [← hV]; exact Box.new2 _ _ _ _
  have RT : Hid (X.RdW w ta tn T) := rt
  have HT : Hid (∀ v ∈ T, 0 ≤ v.x ∧ v.x < 64) := ht
  have CK : Hid (∀ (s : L.B64) (W : World), Below w.heap.size w W → W.cell? ⟨w.heap.size + 1, 0, none⟩ = some (.int .u64 (s.toNat : Int)) → Calls Tryz.prog 135 #[.slice k.a0 K.length k.c0, .func (Fn.func 136) #[] #[.pointer (some ⟨w.heap.size + 1, 0, none⟩)]] W fun e w' => e = .returned (.bool (K.any fun v => !L.inT s v.x)) ∧ Below W.heap.size W w') := fun s W hW hc => c_conK k.a0 K.length k.c0 K _ _ W (rk.1.below hW) f0 (fun v hv W2 hW2 => c_ofK s v.x v.b v.r v.m _ W2 (far6 hW2 hc) (hk v hv).1 (hk v hv).2)
  have CW : Hid (∀ (s : L.B64) (W : World), Below w.heap.size w W → W.cell? ⟨w.heap.size + 1, 0, none⟩ = some (.int .u64 (s.toNat : Int)) → Calls Tryz.prog 138 #[.slice k.a1 Wt.length k.c1, .func (Fn.func 139) #[] #[.pointer (some ⟨w.heap.size + 1, 0, none⟩)]] W fun e w' => e = .returned (.bool (Wt.any fun v => !L.inT s v.x || !L.inT s v.f)) ∧ Below W.heap.size W w') := fun s W hW hc => c_conW k.a1 Wt.length k.c1 Wt _ _ W (rk.2.below hW) f1 (fun v hv W2 hW2 => c_ofW s v.x v.f _ W2 (far6 hW2 hc) (hw v hv).1.1 (hw v hv).1.2 (hw v hv).2.1 (hw v hv).2.2)
  have EK : Hid ((K.any fun v => !L.inT (idsT 0#64 T) v.x) = !(K.all fun v => isT T v.x)) := by
    unfold Hid
    rw [List.all_eq_not_any_not, Bool.not_not]
    exact any_same K fun v hv => by rw [isT_in ht (hk v hv).1]
  have EW : Hid ((Wt.any fun v => !L.inT (idsT 0#64 T) v.x || !L.inT (idsT 0#64 T) v.f) = !(Wt.all fun v => isT T v.x && isT T v.f)) := by
    unfold Hid
    rw [List.all_eq_not_any_not, Bool.not_not]
    exact any_same Wt fun v hv => by rw [isT_in ht (hw v hv).1.1, isT_in ht (hw v hv).2.1, Bool.not_and]
  clear rk f0 f1 rt ht hk hw
  obtain ⟨y0, y1⟩ := G.box2 X0.out
  go_enter Tryz.func62, Tryz.ntmps62
  go_wp2
  clear y0 y1
  go_loopw [10] (fun i wr => ∃ (k' : Nat) (s : L.B64), k' ≤ tn ∧ i = .int .i64 k' ∧ Hid (idsT s (T.drop k') = idsT 0#64 T) ∧ Hid (Box wr (w.heap.size + 1) 168 #[.int .u64 (s.toNat : Int)]) ∧ Hid (Box wr w.heap.size 51 #[.slice k.a0 K.length k.c0, .slice k.a1 Wt.length k.c1]) ∧ Hid (Below w.heap.size w wr)) (fun i _ => tn - (intOf i).toNat)
  case atStart => exact ⟨0, 0#64, by omega, rfl, rfl, S0, X0, B0⟩
  case round =>
    clear S0 X0 B0 hV
    obtain ⟨k', s, hk', rfl, HI, S1, X1, B1⟩ := hrel
    obtain ⟨y0, y1⟩ := G.box2 X1.out
    have u0 : wr.cell? ⟨w.heap.size + 1, 0, none⟩ = some (.int .u64 (s.toNat : Int)) := S1.out.cell 0
    by_cases hlt : k' < tn
    · obtain ⟨hl, hcs⟩ := RT.out
      obtain ⟨b, off, hta, hbl, hc⟩ := hcs (by omega)
      obtain ⟨d0, d1⟩ := hc k' hlt
      have hkl : k' < T.length := by omega
      have hr := getD_of (d := X.dW) HT.out hkl
      have HA := idsT_at (s := s) (vs := T) (k := k') hkl
      obtain ⟨⟨vx, vf⟩, hv⟩ : ∃ v, v = T.getD k' X.dW := ⟨_, rfl⟩
      rw [← hv] at d0 d1 HA hr
      dsimp only at d0 d1 HA hr
      have e0 := (B1.out.cell (p := ⟨b, off + k' * 2, none⟩) hbl).trans d0
      have e1 := (B1.out.cell (p := ⟨b, off + k' * 2 + 1, none⟩) hbl).trans d1
      have HI2 : Hid (idsT (L.orT s (L.bitT vx)) (T.drop (k' + 1)) = idsT 0#64 T) := by unfold Hid; rw [← HI.out, HA]
      obtain ⟨r0, r1⟩ := hr
      have CX : Hid (∀ W : World, Calls Tryz.prog 134 #[.int .i64 vx] W fun e w' => e = .returned (L.uV (L.bitT vx)) ∧ w' = W) := fun W => L.c_setOf vx W r0 r1
      have ho := L.bits_or s (L.bitT vx)
      subst hta
      have g1 : (0 : Int) ≤ (k' : Int) := by omega
      have g2 : (k' : Int) < (tn : Int) := by omega
      obtain ⟨W, hW⟩ : ∃ W, wr.alloc (.cells #[.int .i64 vx, .int .i64 vf] 95) = W := ⟨_, rfl⟩
      have hbA : Below wr.heap.size wr W := by rw [← hW]; exact (Below.refl _ _).alloc (Nat.le_refl _) _
      have HN : Hid (Box W wr.heap.size 95 #[.int .i64 vx, .int .i64 vf]) := by unfold Hid; rw [← hW]; exact Box.new _ _ _
      have S2 : Hid (Box W (w.heap.size + 1) 168 #[.int .u64 (s.toNat : Int)]) := S1.out.belowS hbA
      have X2 : Hid (Box W w.heap.size 51 #[.slice k.a0 K.length k.c0, .slice k.a1 Wt.length k.c1]) := X1.out.belowS hbA
      have B2 : Hid (Below w.heap.size w W) := B1.out.trans (hbA.mono B1.out.size)
      have S3 : Hid (Box (W.setCell ⟨w.heap.size + 1, 0, none⟩ (.int .u64 ((L.orT s (L.bitT vx)).toNat : Int))) (w.heap.size + 1) 168 #[.int .u64 ((L.orT s (L.bitT vx)).toNat : Int)]) := by unfold Hid; have := S2.out.set 0 (.int .u64 ((L.orT s (L.bitT vx)).toNat : Int)); simpa using this
      have X3 : Hid (Box (W.setCell ⟨w.heap.size + 1, 0, none⟩ (.int .u64 ((L.orT s (L.bitT vx)).toNat : Int))) w.heap.size 51 #[.slice k.a0 K.length k.c0, .slice k.a1 Wt.length k.c1]) := X2.out.setOther _ _ (by simp)
      have B3 : Hid (Below w.heap.size w (W.setCell ⟨w.heap.size + 1, 0, none⟩ (.int .u64 ((L.orT s (L.bitT vx)).toNat : Int)))) := B2.out.setCell (by simp) _
      obtain ⟨z0, z1⟩ := G.box2 HN.out
      have u1 : W.cell? ⟨w.heap.size + 1, 0, none⟩ = some (.int .u64 (s.toNat : Int)) := S2.out.cell 0
      have th := S2.out.thaw 0
      clear hl hcs hc hv HA d0 d1 hbA HN S1 X1 B1 S2 X2 B2 y0 y1
      go_wp2_with fail
      clear hW e0 e1 u0
      go_region_with (
        go_at_call 134
        refine (CX.out _).mono ?_
        rintro e w1 ⟨rfl, rfl⟩
        unfold L.uV)
      all_goals
        go_wp2
        go_roundw
        case rel => exact ⟨k' + 1, _, by omega, by go_num, HI2, S3, X3, B3.out.drew⟩
        case measure => simp [intOf]; omega
    · have hge : ¬ (k' : Int) < (tn : Int) := by omega
      have hs : s = idsT 0#64 T := by have := HI.out; rw [List.drop_eq_nil_of_le (by have := RT.out.1; omega)] at this; exact this
      have C1 := CK.out s wr B1.out u0
      rw [hs, EK.out] at C1
      obtain ⟨p, hp⟩ : ∃ p, p = K.all fun v => isT T v.x := ⟨_, rfl⟩
      rw [← hp] at C1
      have HPP : Hid (p = K.all fun v => isT T v.x) := hp
      have C2' : Hid (∀ W : World, Below wr.heap.size wr W → Calls Tryz.prog 138 #[.slice k.a1 Wt.length k.c1, .func (Fn.func 139) #[] #[.pointer (some ⟨w.heap.size + 1, 0, none⟩)]] W fun e w' => e = .returned (.bool (!(Wt.all fun v => isT T v.x && isT T v.f))) ∧ Below W.heap.size W w') := fun W hW => by
        have := CW.out s W (B1.out.trans (hW.mono B1.out.size)) (far6 hW u0)
        rw [hs, EW.out] at this
        exact this
      clear hs HI RT HT CK CW EK EW hp
      go_wp2_with fail
      refine C1.mono ?_
      rintro e w1 ⟨rfl, hb⟩
      have B2 : Hid (Below w.heap.size w w1) := B1.out.trans (hb.mono B1.out.size)
      have X2 : Hid (Box w1 w.heap.size 51 #[.slice k.a0 K.length k.c0, .slice k.a1 Wt.length k.c1]) := X1.out.belowS hb
      have C2 := C2'.out w1 hb
      obtain ⟨q, hq⟩ : ∃ q, q = Wt.all fun v => isT T v.x && isT T v.f := ⟨_, rfl⟩
      rw [← hq] at C2
      have HQQ : Hid (q = Wt.all fun v => isT T v.x && isT T v.f) := hq
      clear hb B1 X1 S1 C1 C2' y0 y1 u0 hq
      obtain ⟨y0, y1⟩ := G.box2 X2.out
      cases p
      · go_wp2
        go_ret
        exact ⟨ret_bool (by rw [← HPP.out]; rfl), B2.out⟩
      · go_wp2_with fail
        refine C2.mono ?_
        rintro e w2 ⟨rfl, hb⟩
        have B3 : Hid (Below w.heap.size w w2) := B2.out.trans (hb.mono B2.out.size)
        clear hb C2 y0 y1 B2 X2
        cases q
        all_goals
          go_wp2
          go_ret
          exact ⟨ret_bool (by rw [← HPP.out, ← HQQ.out]; rfl), B3.out⟩

end Go.Proofs.YtfibdpfhfgnbiaaGreatDoor
