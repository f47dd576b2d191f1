/-
  A map from rows to holders that the call makes: look-up, store, clear.
-/
import Derived.Test.YtfibdpfhfgnbiaaGreatDoorZzaq
import Derived.Deep.RegionWith
import Derived.Deep.DeepCutAuto
import Derived.Deep.QuietTactic
import Derived.Maps.OwnOps
import Derived.Maps.Views
namespace Go.Proofs.YtfibdpfhfgnbiaaGreatDoor.L
open Go Go.RowKit
attribute [local go_sem ↓] Go.wp_at_zero Go.wp_at_succ

set_option maxRecDepth 100000 in
set_option maxHeartbeats 4000000 in
theorem c_noK (vx vb vr vm : Int) (w : World) :
    Calls Tryz.prog 210 #[.agg #[.int .i64 vx, .int .i64 vb, .int .i64 vr, .int .i64 vm]] w fun e w' => e = .returned (.bool (!okK ⟨vx, vb, vr, vm⟩)) ∧ Below w.heap.size w w' := by
  go_enter Tryz.func210, Tryz.ntmps210
  go_wp2_with fail
  refine (c_isLock vx vb vr vm _).mono ?_
  rintro e w1 ⟨rfl, hb⟩
  have hb' : Below w.heap.size w w1 := Below.trans ((Below.refl _ _).alloc (Nat.le_refl _) _) (hb.mono (by simp))
  clear hb
  go_wp2
  go_ret
  exact ⟨rfl, hb'⟩

def okW (v : WK) : Bool := inB v.x 1 60 && inB v.f 1 60 && decide (v.x ≠ v.f)
set_option maxRecDepth 100000 in
set_option maxHeartbeats 4000000 in
theorem c_noW (vx vf : Int) (w : World) :
    Calls Tryz.prog 214 #[.agg #[.int .i64 vx, .int .i64 vf]] w fun e w' => e = .returned (.bool (!okW ⟨vx, vf⟩)) ∧ Below w.heap.size w w' := by
  obtain ⟨p1, h1⟩ : ∃ p, inB vx 1 60 = p := ⟨_, rfl⟩
  obtain ⟨p2, h2⟩ : ∃ p, inB vf 1 60 = p := ⟨_, rfl⟩
  have C1 : Hid (∀ W : World, Calls Tryz.prog 215 #[.int .i64 vx] W fun e w' => e = .returned (.bool p1) ∧ w' = W) := fun W => by rw [← h1]; exact c_isTx vx W
  have C2 : Hid (∀ W : World, Calls Tryz.prog 215 #[.int .i64 vf] W fun e w' => e = .returned (.bool p2) ∧ w' = W) := fun W => by rw [← h2]; exact c_isTx vf W
  cases p1
  · have E : Hid ((!okW ⟨vx, vf⟩) = true) := by simp [Hid, okW, h1]
    go_enter Tryz.func214, Tryz.ntmps214
    go_wp2_with fail
    refine (C1.out _).mono ?_
    rintro e w1 ⟨rfl, rfl⟩
    go_wp2
    go_ret
    exact ⟨ret_bool E.out.symm, (Below.refl _ _).alloc (Nat.le_refl _) _⟩
  cases p2
  · have E : Hid ((!okW ⟨vx, vf⟩) = true) := by simp [Hid, okW, h2]
    go_enter Tryz.func214, Tryz.ntmps214
    go_wp2_with fail
    refine (C1.out _).mono ?_
    rintro e w1 ⟨rfl, rfl⟩
    go_wp2_with fail
    refine (C2.out _).mono ?_
    rintro e w1 ⟨rfl, rfl⟩
    go_wp2
    go_ret
    exact ⟨ret_bool E.out.symm, (Below.refl _ _).alloc (Nat.le_refl _) _⟩
  have E : Hid ((!okW ⟨vx, vf⟩) = (vx == vf)) := by
    unfold Hid okW
    rw [h1, h2]
    by_cases h : vx = vf
    · simp [h]
    · simp [h]
  clear h1 h2
  go_enter Tryz.func214, Tryz.ntmps214
  go_wp2_with fail
  refine (C1.out _).mono ?_
  rintro e w1 ⟨rfl, rfl⟩
  go_wp2_with fail
  refine (C2.out _).mono ?_
  rintro e w1 ⟨rfl, rfl⟩
  go_wp2
  go_ret
  exact ⟨ret_bool E.out.symm, (Below.refl _ _).alloc (Nat.le_refl _) _⟩
set_option maxRecDepth 100000 in
set_option maxHeartbeats 4000000 in
theorem c_idxK (a : Option Addr) (n cap : Nat) (vs : List LK) (w : World) (hr : RdK w a n vs) (hn : n ≤ 1048576) :
    Calls Tryz.prog 216 #[.slice a n cap, .func (Fn.func 210) #[] #[]] w fun e w' => (∃ i : Int, e = .returned (.int .i64 i) ∧ decide (0 ≤ i) = vs.any (fun k => !okK k)) ∧ Below w.heap.size w w' := by
  obtain ⟨hl, hcs⟩ := hr
  go_enter Tryz.func216, Tryz.ntmps216
  go_wp2
  go_loopw [8] (fun i wr => ∃ k : Nat, k ≤ n ∧ i = .int .i64 k ∧ Hid ((vs.take k).any (fun k => !okK k) = false) ∧ Hid (Below w.heap.size w wr)) (fun i _ => n - (intOf i).toNat)
  case atStart => exact ⟨0, by omega, rfl, rfl, Below.refl _ _⟩
  case round =>
    obtain ⟨k, hk, rfl, HA, hb⟩ := hrel
    by_cases hlt : k < n
    · obtain ⟨b, off, rfl, hbl, hc⟩ := hcs (by omega)
      obtain ⟨⟨vx, vb, vr, vm⟩, hv⟩ : ∃ v, v = vs.getD k dK := ⟨_, rfl⟩
      obtain ⟨d0, d1, d2, d3⟩ := hc k hlt
      rw [← hv] at d0 d1 d2 d3
      have e0 : wr.cell? ⟨b, off + k * 4, none⟩ = some (.int .i64 vx) := by rw [hb.out.cell (p := ⟨b, off + k * 4, none⟩) hbl, d0]
      have e1 : wr.cell? ⟨b, off + k * 4 + 1, none⟩ = some (.int .i64 vb) := by rw [hb.out.cell (p := ⟨b, off + k * 4 + 1, none⟩) hbl, d1]
      have e2 : wr.cell? ⟨b, off + k * 4 + 2, none⟩ = some (.int .i64 vr) := by rw [hb.out.cell (p := ⟨b, off + k * 4 + 2, none⟩) hbl, d2]
      have e3 : wr.cell? ⟨b, off + k * 4 + 3, none⟩ = some (.int .i64 vm) := by rw [hb.out.cell (p := ⟨b, off + k * 4 + 3, none⟩) hbl, d3]
      obtain ⟨p, hp⟩ : ∃ p, (!okK (⟨vx, vb, vr, vm⟩ : LK)) = p := ⟨_, rfl⟩
      have HS : Hid ((vs.take (k + 1)).any (fun k => !okK k) = ((vs.take k).any (fun k => !okK k) || p)) := by
        unfold Hid
        have hk' : k < vs.length := by omega
        rw [List.take_add_one, List.any_append, List.getElem?_eq_getElem hk', ← hp, hv, List.getD_eq_getElem?_getD, List.getElem?_eq_getElem hk']
        simp
      have HX : Hid (p = true → vs.any (fun k => !okK k) = true) := fun h => by
        have hk' : k < vs.length := by omega
        rw [List.any_eq_true]
        refine ⟨vs[k], List.getElem_mem hk', ?_⟩
        rw [List.getD_eq_getElem?_getD, List.getElem?_eq_getElem hk'] at hv
        simp only [Option.getD_some] at hv
        rw [← hv]
        exact hp.trans h
      have C : Hid (∀ W : World, Calls Tryz.prog 210 #[.agg #[.int .i64 vx, .int .i64 vb, .int .i64 vr, .int .i64 vm]] W fun e w' => e = .returned (.bool p) ∧ Below W.heap.size W w') := fun W => by rw [← hp]; exact c_noK vx vb vr vm W
      clear hc hcs d0 d1 d2 d3 hv hp
      go_wp2_with fail
      refine (C.out wr).mono ?_
      rintro e w1 ⟨rfl, hb1⟩
      have hb' : Hid (Below w.heap.size w w1) := hb.out.trans (hb1.mono hb.out.size)
      clear hb1 e0 e1 e2 e3 C hb
      cases p
      · go_wp2
        go_roundw
        case rel => exact ⟨k + 1, by omega, by go_num, by unfold Hid; rw [HS.out, HA.out]; rfl, hb'⟩
        case measure => simp [intOf]; omega
      · go_wp2
        go_ret
        exact ⟨⟨(k : Int), rfl, by rw [HX.out (by first | rfl | trivial)]; exact decide_eq_true (by omega)⟩, hb'.out⟩
    · have e : k = n := by omega
      subst e
      go_wp2
      go_ret
      refine ⟨⟨-1, rfl, ?_⟩, hb.out⟩
      have := HA.out
      rw [List.take_of_length_le (by omega)] at this
      rw [this]; rfl

set_option maxRecDepth 100000 in
set_option maxHeartbeats 4000000 in
theorem c_contK (a : Option Addr) (n cap : Nat) (vs : List LK) (w : World) (hr : RdK w a n vs) (hn : n ≤ 1048576) :
    Calls Tryz.prog 135 #[.slice a n cap, .func (Fn.func 210) #[] #[]] w fun e w' => e = .returned (.bool (vs.any (fun k => !okK k))) ∧ Below w.heap.size w w' := by
  have C : Hid (Calls Tryz.prog 216 #[.slice a n cap, .func (Fn.func 210) #[] #[]] w fun e w' => (∃ i : Int, e = .returned (.int .i64 i) ∧ decide (0 ≤ i) = vs.any (fun k => !okK k)) ∧ Below w.heap.size w w') := c_idxK a n cap vs w hr hn
  clear hr
  go_enter Tryz.func135, Tryz.ntmps135
  go_wp2_with fail
  refine C.out.mono ?_
  rintro e w1 ⟨⟨i, rfl, hi⟩, hb⟩
  have HI0 : Hid (decide (0 ≤ i) = vs.any (fun k => !okK k)) := hi
  by_cases h : 0 ≤ i
  · have HI : Hid (true = vs.any (fun k => !okK k)) := by unfold Hid; rw [← hi, decide_eq_true h]
    clear hi
    go_wp2
    go_ret
    exact ⟨ret_bool (by first | exact HI.out | exact HI0.out), hb⟩
  · have HI : Hid (false = vs.any (fun k => !okK k)) := by unfold Hid; rw [← hi, decide_eq_false h]
    clear hi
    go_wp2
    go_ret
    exact ⟨ret_bool (by first | exact HI.out | exact HI0.out), hb⟩

set_option maxRecDepth 100000 in
set_option maxHeartbeats 4000000 in
theorem c_areK (a : Option Addr) (n cap : Nat) (vs : List LK) (w : World) (hr : RdK w a n vs) (hn : n ≤ 1048576) :
    Calls Tryz.prog 131 #[.slice a n cap] w fun e w' => e = .returned (.bool (vs.all okK)) ∧ Below w.heap.size w w' := by
  have C : Hid (Calls Tryz.prog 135 #[.slice a n cap, .func (Fn.func 210) #[] #[]] w fun e w' => e = .returned (.bool (vs.any (fun k => !okK k))) ∧ Below w.heap.size w w') := c_contK a n cap vs w hr hn
  have E : Hid ((!(vs.any (fun k => !okK k))) = vs.all okK) := by unfold Hid; rw [List.not_any_eq_all_not]; simp
  clear hr
  go_enter Tryz.func131, Tryz.ntmps131
  go_wp2_with fail
  refine C.out.mono ?_
  rintro e w1 ⟨rfl, hb⟩
  go_wp2
  go_ret
  exact ⟨ret_bool E.out, hb⟩

set_option maxRecDepth 100000 in
set_option maxHeartbeats 4000000 in
theorem c_idxW (a : Option Addr) (n cap : Nat) (vs : List WK) (w : World) (hr : RdW w a n vs) (hn : n ≤ 1048576) :
    Calls Tryz.prog 217 #[.slice a n cap, .func (Fn.func 214) #[] #[]] w fun e w' => (∃ i : Int, e = .returned (.int .i64 i) ∧ decide (0 ≤ i) = vs.any (fun k => !okW k)) ∧ Below w.heap.size w w' := by
  obtain ⟨hl, hcs⟩ := hr
  go_enter Tryz.func217, Tryz.ntmps217
  go_wp2
  go_loopw [8] (fun i wr => ∃ k : Nat, k ≤ n ∧ i = .int .i64 k ∧ Hid ((vs.take k).any (fun k => !okW k) = false) ∧ Hid (Below w.heap.size w wr)) (fun i _ => n - (intOf i).toNat)
  case atStart => exact ⟨0, by omega, rfl, rfl, Below.refl _ _⟩
  case round =>
    obtain ⟨k, hk, rfl, HA, hb⟩ := hrel
    by_cases hlt : k < n
    · obtain ⟨b, off, rfl, hbl, hc⟩ := hcs (by omega)
      obtain ⟨⟨vx, vf⟩, hv⟩ : ∃ v, v = vs.getD k dW := ⟨_, rfl⟩
      obtain ⟨d0, d1⟩ := hc k hlt
      rw [← hv] at d0 d1
      have e0 : wr.cell? ⟨b, off + k * 2, none⟩ = some (.int .i64 vx) := by rw [hb.out.cell (p := ⟨b, off + k * 2, none⟩) hbl, d0]
      have e1 : wr.cell? ⟨b, off + k * 2 + 1, none⟩ = some (.int .i64 vf) := by rw [hb.out.cell (p := ⟨b, off + k * 2 + 1, none⟩) hbl, d1]
      obtain ⟨p, hp⟩ : ∃ p, (!okW (⟨vx, vf⟩ : WK)) = p := ⟨_, rfl⟩
      have HS : Hid ((vs.take (k + 1)).any (fun k => !okW k) = ((vs.take k).any (fun k => !okW k) || p)) := by
        unfold Hid
        have hk' : k < vs.length := by omega
        rw [List.take_add_one, List.any_append, List.getElem?_eq_getElem hk', ← hp, hv, List.getD_eq_getElem?_getD, List.getElem?_eq_getElem hk']
        simp
      have HX : Hid (p = true → vs.any (fun k => !okW k) = true) := fun h => by
        have hk' : k < vs.length := by omega
        rw [List.any_eq_true]
        refine ⟨vs[k], List.getElem_mem hk', ?_⟩
        rw [List.getD_eq_getElem?_getD, List.getElem?_eq_getElem hk'] at hv
        simp only [Option.getD_some] at hv
        rw [← hv]
        exact hp.trans h
      have C : Hid (∀ W : World, Calls Tryz.prog 214 #[.agg #[.int .i64 vx, .int .i64 vf]] W fun e w' => e = .returned (.bool p) ∧ Below W.heap.size W w') := fun W => by rw [← hp]; exact c_noW vx vf W
      clear hc hcs d0 d1 hv hp
      go_wp2_with fail
      refine (C.out wr).mono ?_
      rintro e w1 ⟨rfl, hb1⟩
      have hb' : Hid (Below w.heap.size w w1) := hb.out.trans (hb1.mono hb.out.size)
      clear hb1 e0 e1 C hb
      cases p
      · go_wp2
        go_roundw
        case rel => exact ⟨k + 1, by omega, by go_num, by unfold Hid; rw [HS.out, HA.out]; rfl, hb'⟩
        case measure => simp [intOf]; omega
      · go_wp2
        go_ret
        exact ⟨⟨(k : Int), rfl, by rw [HX.out (by first | rfl | trivial)]; exact decide_eq_true (by omega)⟩, hb'.out⟩
    · have e : k = n := by omega
      subst e
      go_wp2
      go_ret
      refine ⟨⟨-1, rfl, ?_⟩, hb.out⟩
      have := HA.out
      rw [List.take_of_length_le (by omega)] at this
      rw [this]; rfl

set_option maxRecDepth 100000 in
set_option maxHeartbeats 4000000 in
theorem c_contW (a : Option Addr) (n cap : Nat) (vs : List WK) (w : World) (hr : RdW w a n vs) (hn : n ≤ 1048576) :
    Calls Tryz.prog 138 #[.slice a n cap, .func (Fn.func 214) #[] #[]] w fun e w' => e = .returned (.bool (vs.any (fun k => !okW k))) ∧ Below w.heap.size w w' := by
  have C : Hid (Calls Tryz.prog 217 #[.slice a n cap, .func (Fn.func 214) #[] #[]] w fun e w' => (∃ i : Int, e = .returned (.int .i64 i) ∧ decide (0 ≤ i) = vs.any (fun k => !okW k)) ∧ Below w.heap.size w w') := c_idxW a n cap vs w hr hn
  clear hr
  go_enter Tryz.func138, Tryz.ntmps138
  go_wp2_with fail
  refine C.out.mono ?_
  rintro e w1 ⟨⟨i, rfl, hi⟩, hb⟩
  have HI0 : Hid (decide (0 ≤ i) = vs.any (fun k => !okW k)) := hi
  by_cases h : 0 ≤ i
  · have HI : Hid (true = vs.any (fun k => !okW k)) := by unfold Hid; rw [← hi, decide_eq_true h]
    clear hi
    go_wp2
    go_ret
    exact ⟨ret_bool (by first | exact HI.out | exact HI0.out), hb⟩
  · have HI : Hid (false = vs.any (fun k => !okW k)) := by unfold Hid; rw [← hi, decide_eq_false h]
    clear hi
    go_wp2
    go_ret
    exact ⟨ret_bool (by first | exact HI.out | exact HI0.out), hb⟩

set_option maxRecDepth 100000 in
set_option maxHeartbeats 4000000 in
theorem c_areW (a : Option Addr) (n cap : Nat) (vs : List WK) (w : World) (hr : RdW w a n vs) (hn : n ≤ 1048576) :
    Calls Tryz.prog 133 #[.slice a n cap] w fun e w' => e = .returned (.bool (vs.all okW)) ∧ Below w.heap.size w w' := by
  have C : Hid (Calls Tryz.prog 138 #[.slice a n cap, .func (Fn.func 214) #[] #[]] w fun e w' => e = .returned (.bool (vs.any (fun k => !okW k))) ∧ Below w.heap.size w w') := c_contW a n cap vs w hr hn
  have E : Hid ((!(vs.any (fun k => !okW k))) = vs.all okW) := by unfold Hid; rw [List.not_any_eq_all_not]; simp
  clear hr
  go_enter Tryz.func133, Tryz.ntmps133
  go_wp2_with fail
  refine C.out.mono ?_
  rintro e w1 ⟨rfl, hb⟩
  go_wp2
  go_ret
  exact ⟨ret_bool E.out, hb⟩


end Go.Proofs.YtfibdpfhfgnbiaaGreatDoor.L
namespace Go.Proofs.YtfibdpfhfgnbiaaGreatDoor.L
open Go Go.RowKit
attribute [local go_sem ↓] Go.wp_at_zero Go.wp_at_succ

abbrev HM := Int → B64
def cH (h : HM) : Array Value := #[.int .u64 ((h 0).toNat : Int), .int .u64 ((h 1).toNat : Int), .int .u64 ((h 2).toNat : Int), .int .u64 ((h 3).toNat : Int), .int .u64 ((h 4).toNat : Int)]
def addH (h : HM) (m x : Int) : HM := fun j => if j = m then orT (h j) (bitT x) else h j
theorem cH_get (h : HM) {m : Int} (h1 : 1 ≤ m ∧ m ≤ 4) : (cH h)[m.toNat]? = some (.int .u64 ((h m).toNat : Int)) := by
  have hm : m = 1 ∨ m = 2 ∨ m = 3 ∨ m = 4 := by omega
  rcases hm with rfl | rfl | rfl | rfl <;> rfl
theorem cH_add (h : HM) {m : Int} (h1 : 1 ≤ m ∧ m ≤ 4) (x : Int) : (cH h).setIfInBounds m.toNat (.int .u64 ((orT (h m) (bitT x)).toNat : Int)) = cH (addH h m x) := by
  have hm : m = 1 ∨ m = 2 ∨ m = 3 ∨ m = 4 := by omega
  rcases hm with rfl | rfl | rfl | rfl <;> simp [cH, addH]
def agS (h : HM) (m : Int) : Nat → B64
  | 0 => 0#64
  | j + 1 => if j = 0 ∨ fitB j m = true then agS h m j else orT (agS h m j) (h j)
def agH (h : HM) (x m : Int) : B64 := subT (agS h m 5) (bitT x)
theorem agS_step (h : HM) (m : Int) (j : Nat) (hj : 1 ≤ j) : agS h m (j + 1) = if fitB j m = true then agS h m j else orT (agS h m j) (h j) := by
  show (if j = 0 ∨ fitB j m = true then _ else _) = _
  by_cases hf : fitB j m = true
  · rw [if_pos (.inr hf), if_pos hf]
  · rw [if_neg (fun h => h.elim (by omega) hf), if_neg hf]
set_option maxRecDepth 100000 in
set_option maxHeartbeats 4000000 in
theorem c_against (h : HM) (x b r m : Int) (w : World) (ht : FitH w) (hm : 1 ≤ m ∧ m ≤ 4) (hx : 1 ≤ x ∧ x ≤ 60) :
    Calls Tryz.prog 212 #[.agg (cH h), .agg #[.int .i64 x, .int .i64 b, .int .i64 r, .int .i64 m]] w fun e w' => e = .returned (.int .u64 ((agH h x m).toNat : Int)) ∧ Below w.heap.size w w' := by
  have HT : Hid (FitH w) := ht
  clear ht
  unfold cH
  obtain ⟨V0, hV0⟩ : ∃ V, w.alloc (.cells (cH h) 255) = V := ⟨_, rfl⟩
  obtain ⟨V, hV⟩ : ∃ V, V0.alloc (.cells #[.int .i64 x, .int .i64 b, .int .i64 r, .int .i64 m] 98) = V := ⟨_, rfl⟩
  have hb0 : Below w.heap.size w V0 := by rw [← hV0]; exact (Below.refl _ _).alloc (Nat.le_refl _) _
  have hb1 : Below V0.heap.size V0 V := by rw [← hV]; exact (Below.refl _ _).alloc (Nat.le_refl _) _
  have BH : Hid (Box V w.heap.size 255 (cH h)) := (show Box V0 w.heap.size 255 (cH h) by rw [← hV0]; exact Box.new _ _ _).belowS hb1
  have BK : Hid (Box V V0.heap.size 98 #[.int .i64 x, .int .i64 b, .int .i64 r, .int .i64 m]) := by unfold Hid; rw [← hV]; exact Box.new _ _ _
  have HB : Hid (Below w.heap.size w V) := hb0.trans (hb1.mono hb0.size)
  unfold cH at hV0
  clear hb0 hb1
  have CF : Hid (∀ (W : World) (j : Nat), FitH W → 1 ≤ (j : Int) ∧ (j : Int) ≤ 4 → Calls Tryz.prog 274 #[.int .i64 (j : Int), .int .i64 m] W fun e w' => e = .returned (.bool (fitB j m)) ∧ Below W.heap.size W w') := fun W j hW hj => c_modesFit j m W hW hj hm
  have CX : Hid (∀ W : World, Calls Tryz.prog 134 #[.int .i64 x] W fun e w' => e = .returned (uV (bitT x)) ∧ w' = W) := fun W => c_setOf x W (by omega) (by omega)
  go_enter Tryz.func212, Tryz.ntmps212
  go_wp2
  go_loopw [5, 6] (fun s j wr => ∃ k : Nat, 1 ≤ k ∧ k ≤ 5 ∧ j = .int .i64 (k : Int) ∧ s = .int .u64 ((agS h m k).toNat : Int) ∧ Hid (Below V.heap.size V wr)) (fun _ j _ => 5 - (intOf j).toNat)
  case atStart => exact ⟨1, by omega, by omega, rfl, rfl, Below.refl _ _⟩
  case round =>
    obtain ⟨k, hk1, hk5, rfl, rfl, hb⟩ := hrel
    have hwr : Hid (Below w.heap.size w wr) := HB.out.trans (hb.out.mono HB.out.size)
    have bk := BK.out.belowS hb.out
    have bh := BH.out.belowS hb.out
    have k3 := bk.cell 3
    have k0 := bk.cell 0
    by_cases hk : k < 5
    · obtain ⟨f, hf⟩ : ∃ f, fitB k m = f := ⟨_, rfl⟩
      have hs := agS_step h m k hk1
      have hcj := bh.cell k
      have hg := cH_get h (m := (k : Int)) (by omega)
      rw [Int.toNat_natCast] at hg
      rw [hg] at hcj
      have HF : Hid (FitH wr) := HT.out.below hwr.out
      have c1 : (k : Int) ≤ 4 := by omega
      have c2 : (k : Int) < 5 := by omega
      rw [hf] at hs
      have HSt : Hid (agS h m (k + 1) = if f = true then agS h m k else orT (agS h m k) (h (k : Int))) := hs
      have ho := bits_or (agS h m k) (h (k : Int))
      clear hs hg bk bh
      go_wp2_with fail
      refine (CF.out wr k HF.out (by omega)).mono ?_
      rintro e w1 ⟨rfl, hb1⟩
      rw [hf]
      have HB1 : Hid (Below V.heap.size V w1) := hb.out.trans (hb1.mono hb.out.size)
      have hcj1 : w1.cell? ⟨w.heap.size, k, none⟩ = some (.int .u64 ((h (k : Int)).toNat : Int)) := far6 hb1 hcj
      clear hb1 hcj k0 k3 hf hb
      cases f
      · go_wp2
        go_roundw
        case rel => exact ⟨k + 1, by omega, by omega, by go_num, by rw [HSt.out]; rfl, HB1⟩
        case measure => simp [intOf]; omega
      · go_wp2
        go_roundw
        case rel => exact ⟨k + 1, by omega, by omega, by go_num, by rw [HSt.out]; rfl, HB1⟩
        case measure => simp [intOf]; omega
    · have e : k = 5 := by omega
      subst e
      have c1 : ¬ ((5 : Nat) : Int) ≤ 4 := by omega
      have hn := bits_andNot (agS h m 5) (bitT x)
      clear bk bh
      go_wp2_with fail
      refine (CX.out wr).mono ?_
      rintro e w1 ⟨rfl, rfl⟩
      unfold uV
      go_wp2
      go_ret
      exact ⟨rfl, hwr.out⟩
set_option maxRecDepth 100000 in
set_option maxHeartbeats 4000000 in
theorem c_add (g : Nat) (h : HM) (x b r m : Int) (w : World) (hbx : Box w g 255 (cH h)) (hm : 1 ≤ m ∧ m ≤ 4) (hx : 1 ≤ x ∧ x ≤ 60) :
    Calls Tryz.prog 213 #[.pointer (some ⟨g, 0, none⟩), .agg #[.int .i64 x, .int .i64 b, .int .i64 r, .int .i64 m]] w fun e w' => (∃ v, e = .returned v) ∧ Box w' g 255 (cH (addH h m x)) ∧ Inn g (g + 1) w w' := by
  have HX : Hid (Box w g 255 (cH h)) := hbx
  obtain ⟨V, hV⟩ : ∃ V, w.alloc (.cells #[.int .i64 x, .int .i64 b, .int .i64 r, .int .i64 m] 98) = V := ⟨_, rfl⟩
  have hb1 : Below w.heap.size w V := by rw [← hV]; exact (Below.refl _ _).alloc (Nat.le_refl _) _
  have BH : Hid (Box V g 255 (cH h)) := hbx.belowS hb1
  have BK : Hid (Box V w.heap.size 98 #[.int .i64 x, .int .i64 b, .int .i64 r, .int .i64 m]) := by unfold Hid; rw [← hV]; exact Box.new _ _ _
  have lg : g < w.heap.size := hbx.lt
  have HB : Hid (Below w.heap.size w V) := hb1
  clear hb1 hbx
  obtain ⟨k, hk⟩ : ∃ k : Nat, m = (k : Int) := ⟨m.toNat, by omega⟩
  have hcj := BH.out.cell k
  have hg := cH_get h hm
  have hadd := cH_add h hm x
  rw [hk, Int.toNat_natCast] at hg hadd
  rw [← hk] at hg hadd
  rw [hg] at hcj
  have hth := BH.out.thaw k
  have HA : Hid (_ = _) := hadd
  have k3 := BK.out.cell 3
  have k0 := BK.out.cell 0
  have ho := bits_or (h m) (bitT x)
  have CX : Hid (∀ W : World, Calls Tryz.prog 134 #[.int .i64 x] W fun e w' => e = .returned (uV (bitT x)) ∧ w' = W) := fun W => c_setOf x W (by omega) (by omega)
  have c1 : (k : Int) < 5 := by omega
  subst hk
  clear hg hadd
  go_enter Tryz.func213, Tryz.ntmps213
  go_wp2_with fail
  go_region_with (
    go_at_call 134
    refine (CX.out _).mono ?_
    rintro e w1 ⟨rfl, rfl⟩
    unfold uV)
  all_goals
    go_wp2
    refine bodyPost_end (results_none Tryz.results213 _ _ _) rfl ⟨⟨_, rfl⟩, ?_, ?_⟩
    · have := BH.out.set k (.int .u64 ((orT (h (k : Int)) (bitT x)).toNat : Int))
      rw [HA.out] at this
      exact this
    · refine (Inn.of_below HB.out).trans ⟨rfl, rfl, rfl, by simp, fun i hi ho => ?_⟩
      exact Below.heap_setCell V ⟨g, k, none⟩ _ i (by show i ≠ g; omega)

end Go.Proofs.YtfibdpfhfgnbiaaGreatDoor.L
namespace Go.Proofs.YtfibdpfhfgnbiaaGreatDoor.L
open Go Go.RowKit
attribute [local go_sem ↓] Go.wp_at_zero Go.wp_at_succ

open Go.Maps Go.ChangeMaps Go.MapKept
open Go.WideElems (Fit)

def lU (b : B64) : DataW Unit := .lit (.int .u64 (b.toNat : Int))
def dH (h : HM) : DataW Unit := .agg [lU (h 0), lU (h 1), lU (h 2), lU (h 3), lU (h 4)]
def elH (v : Value) : Option (DataW Unit × List MemPlace) :=
  match v with
  | .agg c => match c.toList with
    | [.int .u64 a0, .int .u64 a1, .int .u64 a2, .int .u64 a3, .int .u64 a4] => some (.agg [.lit (.int .u64 a0), .lit (.int .u64 a1), .lit (.int .u64 a2), .lit (.int .u64 a3), .lit (.int .u64 a4)], [])
    | _ => none
  | _ => none
theorem elH_cH (h : HM) : elH (.agg (cH h)) = some (dH h, []) := rfl
theorem elH_inv {v : Value} {h : HM} {ps : List MemPlace} (e : elH v = some (dH h, ps)) : v = .agg (cH h) := by
  unfold elH at e
  split at e
  · rename_i c
    split at e
    · rename_i a0 a1 a2 a3 a4 hc
      simp only [Option.some.injEq, Prod.mk.injEq, dH, lU, DataW.agg.injEq, List.cons.injEq, DataW.lit.injEq, Lit.int.injEq, true_and, and_true] at e
      obtain ⟨⟨e0, e1, e2, e3, e4⟩, _⟩ := e
      have : c = cH h := by
        apply Array.toList_inj.1
        rw [hc, e0, e1, e2, e3, e4]
        rfl
      rw [this]
    · cases e
  · cases e
def zeroH : HM := fun _ => 0#64
abbrev FM := Int → HM
def putM (f : FM) (r : Int) (h : HM) : FM := fun z => if z = r then h else f z
theorem keyI : Keyed Tryz.prog 3 := int_keyed Tryz.underlying3
theorem zeroHV (w : World) : (zeroValue 255).run Tryz.prog w = .ok (.agg (cH zeroH)) w := by kernel_rfl
/-- Block b is a map of at most n entries; at a row stands what f says. -/
def OwnM (w : World) (b n : Nat) (f : FM) : Prop :=
  ∃ D : DataW Unit, w.ownsMap Tryz.prog 3 elH b n D ∧ IsMap D ∧ ∀ r : Int, D.atKey (.int .i64 r) (dH zeroH) = dH (f r)
theorem OwnM.kept {w w' : World} {b n : Nat} {f : FM} (h : OwnM w b n f) (hs : w'.heap[b]? = w.heap[b]?) : OwnM w' b n f := by
  obtain ⟨D, ⟨es, clock, hb, F, hn, hD⟩, hm, ha⟩ := h
  exact ⟨D, ⟨es, clock, hs.trans hb, F, hn, hD⟩, hm, ha⟩
theorem OwnM.lt {w : World} {b n : Nat} {f : FM} (h : OwnM w b n f) : b < w.heap.size := by
  obtain ⟨D, ho, _⟩ := h; exact ho.lt
theorem OwnM.made (w : World) : OwnM (w.alloc (.map #[] 0)) w.heap.size 0 (fun _ => zeroH) :=
  ⟨.map [], World.ownsMap_made w Tryz.prog 3 elH, isMap_empty, fun _ => rfl⟩
theorem key_r {r : Int} (hr : -1 ≤ r ∧ r ≤ 1000) : keyOf Tryz.prog 3 (.int .i64 r) = some (.int .i64 r) := keyOf_int_mk Tryz.underlying3 (WalkArith.wf_i64 (by omega))
theorem wp_lookH (w : World) {ops : Array Oper} {rest : List Oper} {o : Oper} {a : Act} {Q : Exit → Act → World → Prop}
    (hg : o.guard = none) (m x : Operand) (hop : o.op = Op.lookup 252 m x false) (b n : Nat) (f : FM) (hm : a.eval m = .map (some b)) (hown : OwnM w b n f) (r : Int) (hx : a.eval x = .int .i64 r) (hr : -1 ≤ r ∧ r ≤ 1000)
    (hK : wpList Tryz.prog ops Q rest (a.put o.dst (.agg (cH (f r)))) w) : wpList Tryz.prog ops Q (o :: rest) a w := by
  refine wpList_plain hg fun K' hK' => ?_
  obtain ⟨D, ho, hD, ha⟩ := hown
  obtain ⟨v, ps, hrun, hv⟩ := ho.lookup keyI Tryz.underlying252 (zeroHV w) (elH_cH zeroH) (key_r hr)
  rw [ha r] at hv
  obtain rfl := elH_inv hv
  unfold Oper.wp
  simp [execOp, hop, hm, hx, hrun, Result.andThen]
  exact hK' _ _ hK
theorem wp_putH (w : World) {ops : Array Oper} {rest : List Oper} {o : Oper} {a : Act} {Q : Exit → Act → World → Prop}
    (hg : o.guard = none) (m x v : Operand) (hop : o.op = Op.mapUpdate 252 m x v) (b n : Nat) (f : FM) (hm : a.eval m = .map (some b)) (hown : OwnM w b n f) (hn : n < maxLen) (r : Int) (hx : a.eval x = .int .i64 r) (hr : -1 ≤ r ∧ r ≤ 1000) (h : HM) (hv : a.eval v = .agg (cH h))
    (hK : ∀ w', OwnM w' b (n + 1) (putM f r h) → w.grownBy w' (some b) → wpList Tryz.prog ops Q rest (a.put o.dst undef) w') : wpList Tryz.prog ops Q (o :: rest) a w := by
  refine wpList_plain hg fun K' hK' => ?_
  obtain ⟨D, ho, hD, ha⟩ := hown
  obtain ⟨w', hrun, r1, r2⟩ := ho.update keyI Tryz.underlying252 hn (key_r hr) (elH_cH h)
  unfold Oper.wp
  simp [execOp, hop, hm, hx, hv, hrun, Result.andThen]
  refine hK' _ _ (hK w' ⟨_, r1, hD.put _ _, fun z => ?_⟩ r2)
  unfold putM
  by_cases hz : z = r
  · subst hz
    rw [if_pos rfl]
    exact atKey_put_same hD (by trivial) _ _
  · rw [if_neg hz, atKey_put_other (by intro e; cases e; exact hz rfl)]
    exact ha z
theorem wp_clearH (w : World) {ops : Array Oper} {rest : List Oper} {o : Oper} {a : Act} {Q : Exit → Act → World → Prop}
    (hg : o.guard = none) (m : Operand) (hop : o.op = .call { callee := .builtin .clear, args := #[m], argTypes := #[252] }) (b n : Nat) (f : FM) (hm : a.eval m = .map (some b)) (hown : OwnM w b n f)
    (hK : ∀ v w', OwnM w' b 0 (fun _ => zeroH) → w.grownBy w' (some b) → wpList Tryz.prog ops Q rest (a.put o.dst v) w') : wpList Tryz.prog ops Q (o :: rest) a w := by
  refine wpList_plain hg fun K' hK' => ?_
  obtain ⟨D, ⟨es, clock, hb, F, hn, hD⟩, hmp, ha⟩ := hown
  have hrun : (Builtin.clear_ #[252] o.type #[.map (some b)]).run Tryz.prog w = .ok (.tuple #[]) (setBlock w b (.map #[] clock)) := by
    simp [Builtin.clear_, run_underlying Tryz.underlying252, MapKept.run_getObj_map hb, MapKept.run_setObj_map _ hb, Result.andThen, setBlock]
  have h1 : OwnM (setBlock w b (.map #[] clock)) b 0 (fun _ => zeroH) := ⟨.map [], ⟨#[], clock, heap_setBlock_same hb _, ⟨by simp, stamped_empty clock, by simp⟩, Nat.le_refl _, rfl⟩, isMap_empty, fun _ => rfl⟩
  have h2 : w.grownBy (setBlock w b (.map #[] clock)) (some b) := ⟨rfl, rfl, rfl, by simp [setBlock], fun i _ hi => heap_setBlock_other hb _ (fun e => hi (by rw [e]))⟩
  unfold Oper.wp
  simp [execOp, hop, resolve, invoke, builtin, hm, hrun, Result.andThen]
  exact hK' _ _ (hK _ _ h1 h2)

end Go.Proofs.YtfibdpfhfgnbiaaGreatDoor.L
