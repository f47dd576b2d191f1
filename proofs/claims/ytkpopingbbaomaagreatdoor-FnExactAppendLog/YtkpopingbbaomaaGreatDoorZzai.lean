/-
  Bytes with their sum behind: the specification's own.
-/
import Derived.Test.YtkpopingbbaomaaGreatDoorZzab
import Derived.Test.YtkpopingbbaomaaGreatDoorZzad
import Derived.ChangeKeysEq
import Derived.Laws.StructEq
import Derived.Laws.Cover3
import Derived.Test.YtkpopingbbaomaaGreatDoorZzah
import Derived.Test.YtkpopingbbaomaaGreatDoorZzae
import Derived.Test.YtkpopingbbaomaaGreatDoorShq
namespace Go.Proofs.YtkpopingbbaomaaGreatDoor
open Go Go.RowKit
attribute [local go_sem ↓] Go.wp_at_zero Go.wp_at_succ


end Go.Proofs.YtkpopingbbaomaaGreatDoor
namespace Go.Proofs.YtkpopingbbaomaaGreatDoor
open Go Go.RowKit

theorem eq4 (W : World) (a0 a1 a2 a3 b0 b1 b2 b3 : Int) : (Op.equalIn 10000 360 (.agg #[.int .u8 a0, .int .u8 a1, .int .u8 a2, .int .u8 a3]) (.agg #[.int .u8 b0, .int .u8 b1, .int .u8 b2, .int .u8 b3])).run Tryz.prog W = .ok (a0 == b0 && (a1 == b1 && (a2 == b2 && a3 == b3))) W := by
  obtain ⟨i0, hi, _⟩ := info_parts infoB
  rw [run_equalIn_array W 9999 _ _ Tryz.underlying360 hi]
  have hc : Tryz.prog.cellsOf 5 = 1 := by kernel_rfl
  have hr : List.range 4 = [0, 1, 2, 3] := rfl
  rw [hc, hr]
  cases h0 : (a0 == b0) <;> cases h1 : (a1 == b1) <;> cases h2 : (a2 == b2) <;> cases h3 : (a3 == b3)
  all_goals simp [Op.eqItems, part, go_sem, h0, h1, h2, h3]
end Go.Proofs.YtkpopingbbaomaaGreatDoor
namespace Go.Proofs.YtkpopingbbaomaaGreatDoor
open Go Go.RowKit
attribute [local go_sem ↓] Go.wp_at_zero Go.wp_at_succ


def headZ (zs : List Int) : List Int := zs.take (zs.length - 4)
def tailZ (zs : List Int) : List Int := zs.drop (zs.length - 4)
def unsB (zs : List Int) : Bool := decide (4 ≤ zs.length) && decide (sumZ (Crc.crc (headZ zs) : Nat) = tailZ zs)
theorem uns_lo {zs : List Int} (h : zs.length < 4) : unsB zs = false := by unfold unsB; rw [decide_eq_false (by omega)]; rfl
theorem uns_no {zs : List Int} (h : ¬ sumZ (Crc.crc (headZ zs) : Nat) = tailZ zs) : unsB zs = false := by unfold unsB; rw [decide_eq_false h]; simp
theorem uns_yes {zs : List Int} (h4 : 4 ≤ zs.length) (h : sumZ (Crc.crc (headZ zs) : Nat) = tailZ zs) : unsB zs = true := by unfold unsB; rw [decide_eq_true h, decide_eq_true h4]; rfl
theorem tail4 {zs : List Int} (h4 : 4 ≤ zs.length) : ∃ t0 t1 t2 t3, tailZ zs = [t0, t1, t2, t3] ∧ t0 = zs.getD (zs.length - 4) 0 ∧ t1 = zs.getD (zs.length - 4 + 1) 0 ∧ t2 = zs.getD (zs.length - 4 + 2) 0 ∧ t3 = zs.getD (zs.length - 4 + 3) 0 := by
  refine ⟨_, _, _, _, ?_, rfl, rfl, rfl, rfl⟩
  unfold tailZ
  apply List.ext_getElem
  · simp; omega
  intro i h1 h2
  simp at h2
  rw [List.getElem_drop]
  have : i = 0 ∨ i = 1 ∨ i = 2 ∨ i = 3 := by omega
  rcases this with rfl | rfl | rfl | rfl
  all_goals
    simp only [List.getElem_cons_zero, List.getElem_cons_succ, Nat.add_zero]
    rw [List.getD_eq_getElem?_getD, List.getElem?_eq_getElem (by omega)]
    rfl
theorem head_bytes {zs : List Int} (hz : ∀ z ∈ zs, 0 ≤ z ∧ z < 256) : ∀ z ∈ headZ zs, 0 ≤ z ∧ z < 256 := fun z h => hz z (List.mem_of_mem_take h)
theorem head_rd {w : World} {a : Option Addr} {n : Nat} {zs : List Int} (h : RdV w a n (zs.map (Value.int .u8))) : RdV w a (n - 4) ((headZ zs).map (Value.int .u8)) := by
  obtain ⟨hl, hc⟩ := h
  simp only [List.length_map] at hl
  refine ⟨by simp [headZ]; omega, fun h0 => ?_⟩
  obtain ⟨b, off, e, hlt, hc⟩ := hc (by omega)
  refine ⟨b, off, e, hlt, fun i hi => ?_⟩
  rw [hc i (by omega)]
  unfold headZ
  rw [List.getElem?_map, List.getElem?_map, List.getElem?_take_of_lt (by omega)]
def unsV (b off n : Nat) (u : Bool) : Value := if u then .slice (some ⟨b, off, none⟩) (n - 4) (n - 4) else .slice none 0 0
set_option maxRecDepth 100000 in
set_option maxHeartbeats 4000000 in
theorem c_unseal (b off n cap : Nat) (zs : List Int) (w : World) (hr : RdV w (some ⟨b, off, none⟩) n (zs.map (Value.int .u8))) (hz : ∀ z ∈ zs, 0 ≤ z ∧ z < 256) (hn : n ≤ 65536) (hcap : n ≤ cap) (h4 : 4 ≤ n) (ht : TabH w) :
    Calls Tryz.prog 281 #[.slice (some ⟨b, off, none⟩) n cap] w fun e w' => e = .returned (.tuple #[unsV b off n (unsB zs), .bool (unsB zs)]) ∧ Below w.heap.size w w' := by
  have hl : zs.length = n := by simpa using hr.1
  obtain ⟨t0, t1, t2, t3, ht4, e0, e1, e2, e3⟩ := tail4 (zs := zs) (by omega)
  obtain ⟨C, hC⟩ : ∃ C : Int, C = (Crc.crc (headZ zs) : Nat) := ⟨_, rfl⟩
  have SUM : Hid (∀ W cp, Below w.heap.size w W → Calls Tryz.prog 303 #[.slice (some ⟨b, off, none⟩) (n - 4) cp] W fun e w' => e = .returned (.agg #[.int .u8 (C / 16777216), .int .u8 (C / 65536 % 256), .int .u8 (C / 256 % 256), .int .u8 (C % 256)]) ∧ Below W.heap.size W w') := fun W cp hW => c_sumOf _ (n - 4) cp (headZ zs) W ((head_rd hr).below hW) (head_bytes hz) (by omega) (ht.below hW) C hC
  obtain ⟨b', off', e, hbl, hc⟩ := hr.2 (by omega)
  cases e
  rw [hl] at e0 e1 e2 e3
  have c0 : w.cell? ⟨b, off + (n - 4), none⟩ = some (.int .u8 t0) := by rw [e0, hc _ (by omega)]; exact map_get _ _ _ _ (by omega)
  have c1 : w.cell? ⟨b, off + (n - 4) + 1, none⟩ = some (.int .u8 t1) := by rw [e1, Nat.add_assoc, hc _ (by omega)]; exact map_get _ _ _ _ (by omega)
  have c2 : w.cell? ⟨b, off + (n - 4) + 2, none⟩ = some (.int .u8 t2) := by rw [e2, Nat.add_assoc, hc _ (by omega)]; exact map_get _ _ _ _ (by omega)
  have c3 : w.cell? ⟨b, off + (n - 4) + 3, none⟩ = some (.int .u8 t3) := by rw [e3, Nat.add_assoc, hc _ (by omega)]; exact map_get _ _ _ _ (by omega)
  have UE : Hid ((C / 16777216 = t0 ∧ C / 65536 % 256 = t1 ∧ C / 256 % 256 = t2 ∧ C % 256 = t3 → unsB zs = true) ∧ (¬ (C / 16777216 = t0 ∧ C / 65536 % 256 = t1 ∧ C / 256 % 256 = t2 ∧ C % 256 = t3) → unsB zs = false)) := by
    refine ⟨fun h => uns_yes (by omega) (by rw [← hC, ht4]; unfold sumZ; rw [h.1, h.2.1, h.2.2.1, h.2.2.2]), fun h => uns_no (fun e => h ?_)⟩
    rw [← hC, ht4] at e
    simp [sumZ] at e
    exact e
  have hm4 : (n : Int) - 4 = ((n - 4 : Nat) : Int) := by omega
  obtain ⟨m, hm⟩ : ∃ m, m = n - 4 := ⟨_, rfl⟩
  rw [← hm] at c0 c1 c2 c3 hm4 SUM
  have hmn : n = m + 4 := by omega
  subst hmn
  clear hr hz ht hl ht4 e0 e1 e2 e3 hC hc hm
  have harr : ∀ W : World, (Instr.arrayAt 360 (.slice (some ⟨b, off + m, none⟩) 4 (cap - m))).run Tryz.prog W = .ok (.pointer (some ⟨b, off + m, none⟩)) W := fun W => run_arrayAt W 360 5 4 _ 4 (cap - m) Tryz.underlying360 (Nat.le_refl _)
  have z0 : ¬ (m : Int) < 0 := by omega
  have z1 : (0 : Int) ≤ (m : Int) := by omega
  have z2 : (m : Int) ≤ (cap : Int) := by omega
  have z3 : (m : Int) ≤ ((m + 4 : Nat) : Int) := by omega
  have z4 : (m : Int) ≤ (m : Int) + 4 := by omega
  have z5 : (m : Int) + 4 ≤ (cap : Int) := by omega
  by_cases hu : C / 16777216 = t0 ∧ C / 65536 % 256 = t1 ∧ C / 256 % 256 = t2 ∧ C % 256 = t3
  · have E : Hid (unsB zs = true) := UE.out.1 hu
    obtain ⟨rfl, rfl, rfl, rfl⟩ := hu
    have heq : ∀ W : World, (Op.equalIn 10000 360 (.agg #[.int .u8 (C / 16777216), .int .u8 (C / 65536 % 256), .int .u8 (C / 256 % 256), .int .u8 (C % 256)]) (.agg #[.int .u8 (C / 16777216), .int .u8 (C / 65536 % 256), .int .u8 (C / 256 % 256), .int .u8 (C % 256)])).run Tryz.prog W = .ok true W := fun W => by rw [eq4]; simp
    clear UE
    go_enter Tryz.func281, Tryz.ntmps281
    go_wp2_with fail
    go_region_held3 (fun x => x.cell? ⟨b, off + m, none⟩ = some (.int .u8 (C / 16777216)) ∧ x.cell? ⟨b, off + m + 1, none⟩ = some (.int .u8 (C / 65536 % 256)) ∧ x.cell? ⟨b, off + m + 2, none⟩ = some (.int .u8 (C / 256 % 256)) ∧ x.cell? ⟨b, off + m + 3, none⟩ = some (.int .u8 (C % 256)))
      (first | exact k1 | go_keep)
      (first
        | (go_at_call 303; refine (SUM.out _ _ (by exact (Below.refl _ _).drew)).mono ?_; rintro e w1 ⟨rfl, hb⟩
           have k1 : w1.cell? ⟨b, off + m, none⟩ = some (.int .u8 (C / 16777216)) ∧ w1.cell? ⟨b, off + m + 1, none⟩ = some (.int .u8 (C / 65536 % 256)) ∧ w1.cell? ⟨b, off + m + 2, none⟩ = some (.int .u8 (C / 256 % 256)) ∧ w1.cell? ⟨b, off + m + 3, none⟩ = some (.int .u8 (C % 256)) := ⟨far6 hb c0, far6 hb c1, far6 hb c2, far6 hb c3⟩))
    all_goals
      have B1 : Hid (Below w.heap.size w w1) := (Below.refl w.heap.size w).drew.trans hb
      clear hb k1 c0 c1 c2 c3 SUM
      go_wp2
      go_ret2
      rw [E.out]
      exact ⟨rfl, B1.out⟩
  · have E : Hid (unsB zs = false) := UE.out.2 hu
    have heq : ∀ W : World, (Op.equalIn 10000 360 (.agg #[.int .u8 (C / 16777216), .int .u8 (C / 65536 % 256), .int .u8 (C / 256 % 256), .int .u8 (C % 256)]) (.agg #[.int .u8 t0, .int .u8 t1, .int .u8 t2, .int .u8 t3])).run Tryz.prog W = .ok false W := fun W => by
      rw [eq4]
      have : (C / 16777216 == t0 && (C / 65536 % 256 == t1 && (C / 256 % 256 == t2 && C % 256 == t3))) = false := by
        rw [Bool.eq_false_iff]
        intro e
        simp only [Bool.and_eq_true, beq_iff_eq] at e
        exact hu e
      rw [this]
    clear UE hu
    go_enter Tryz.func281, Tryz.ntmps281
    go_wp2_with fail
    go_region_held3 (fun x => x.cell? ⟨b, off + m, none⟩ = some (.int .u8 t0) ∧ x.cell? ⟨b, off + m + 1, none⟩ = some (.int .u8 t1) ∧ x.cell? ⟨b, off + m + 2, none⟩ = some (.int .u8 t2) ∧ x.cell? ⟨b, off + m + 3, none⟩ = some (.int .u8 t3))
      (first | exact k1 | go_keep)
      (first
        | (go_at_call 303; refine (SUM.out _ _ (by exact (Below.refl _ _).drew)).mono ?_; rintro e w1 ⟨rfl, hb⟩
           have k1 : w1.cell? ⟨b, off + m, none⟩ = some (.int .u8 t0) ∧ w1.cell? ⟨b, off + m + 1, none⟩ = some (.int .u8 t1) ∧ w1.cell? ⟨b, off + m + 2, none⟩ = some (.int .u8 t2) ∧ w1.cell? ⟨b, off + m + 3, none⟩ = some (.int .u8 t3) := ⟨far6 hb c0, far6 hb c1, far6 hb c2, far6 hb c3⟩))
    all_goals
      have B1 : Hid (Below w.heap.size w w1) := (Below.refl w.heap.size w).drew.trans hb
      clear hb k1 c0 c1 c2 c3 SUM heq
      go_wp2
      go_ret2
      rw [E.out]
      exact ⟨rfl, B1.out⟩
theorem c_unseal_lo (a : Option Addr) (n cap : Nat) (w : World) (h4 : n < 4) :
    Calls Tryz.prog 281 #[.slice a n cap] w fun e w' => e = .returned (.tuple #[.slice none 0 0, .bool false]) ∧ ∃ q, w' = w.drewN q := by
  have z0 : (n : Int) - 4 < 0 := by omega
  have z1 : (n : Int) < 4 := by omega
  go_enter Tryz.func281, Tryz.ntmps281
  go_wp2_with fail
  go_quiet (fail)
  go_wp2
  go_ret2
  exact ⟨rfl, _, rfl⟩

end Go.Proofs.YtkpopingbbaomaaGreatDoor
namespace Go.Proofs.YtkpopingbbaomaaGreatDoor
open Go Go.RowKit
attribute [local go_sem ↓] Go.wp_at_zero Go.wp_at_succ


def famX (w : World) (z : Obj) (j : Nat) : World := if j % 2 = 0 then w.drewN (j / 2) else (w.alloc z).drewN (j / 2)
theorem famX_cell {w : World} {z : Obj} {b o : Nat} {u : Value} (h : w.cell? ⟨b, o, none⟩ = some u) (j : Nat) : (famX w z j).cell? ⟨b, o, none⟩ = some u := by
  unfold famX
  split
  · exact h
  · exact far6 (below_drewN ((Below.refl _ _).alloc (Nat.le_refl _) _) _) h
theorem famX0 (w : World) (z : Obj) (k : Nat) : ∃ j, w.drewN k = famX w z j := ⟨2 * k, by unfold famX; rw [if_pos (by omega)]; congr 1; omega⟩
theorem famX1 (w : World) (z : Obj) (k : Nat) : ∃ j, (w.alloc z).drewN k = famX w z j := ⟨2 * k + 1, by unfold famX; rw [if_neg (by omega)]; congr 1; omega⟩

end Go.Proofs.YtkpopingbbaomaaGreatDoor
namespace Go.Proofs.YtkpopingbbaomaaGreatDoor
open Go Go.RowKit
attribute [local go_sem ↓] Go.wp_at_zero Go.wp_at_succ


theorem c_in3 (n lo hi : Int) (w : World) : Calls Tryz.prog 53 #[.int .i64 n, .int .i64 lo, .int .i64 hi] w fun e w' => e = .returned (.bool (inB n lo hi)) ∧ w = w' := (c_in n lo hi w).mono fun _ _ h => ⟨h.1, h.2.symm⟩
theorem bkL_at {C : List PP} {n p : Nat} {xa : Int} {xt : ByteArray} (hp : p < n) (hx : (xa, xt) = C.getD p dP) : bkL C n (n - 1 - p + 1) = bkL C n (n - 1 - p) ++ [(p, xa, xt)] := by
  rw [bkL_succ]
  congr 2
  unfold bkF
  rw [show n - 1 - (n - 1 - p) = p by omega, ← hx]
set_option maxRecDepth 100000 in
set_option maxHeartbeats 2000000 in
theorem c_l02Read (a0 : Option Addr) (n0 c0 : Nat) (a1 : Option Addr) (n1 c1 : Nat) (b : Bool) (a2 : Option Addr) (n2 c2 : Nat) (S : List ByteArray) (C : List PP) (j : Nat) (w : World)
    (r0 : RdV w a0 n0 (S.map Value.string)) (r1 : RdP w a1 n1 C) (hj : j < n0) (hn0 : n0 ≤ 1048576) (hn1 : n1 ≤ 1048576) :
    Calls Tryz.prog 201 #[.agg #[.slice a0 n0 c0, .slice a1 n1 c1, .bool b, .slice a2 n2 c2], .int .i64 (j : Int)] w fun e W' => e = .returned (.string (rdS S C j)) ∧ Below w.heap.size w W' := by
  have l0 : S.length = n0 := by simpa using r0.1
  have l1 := r1.1
  have R0 : Hid (RdV w a0 n0 (S.map Value.string)) := r0
  have R1 : Hid (RdP w a1 n1 C) := r1
  obtain ⟨V, hV⟩ : ∃ V, w.alloc (.cells #[.slice a0 n0 c0, .slice a1 n1 c1, .bool b, .slice a2 n2 c2] 42) = V := ⟨_, rfl⟩
  have HB : Hid (Below w.heap.size w V) := by unfold Hid; rw [← hV]; exact (Below.refl _ _).alloc (Nat.le_refl _) _
  have bx : Box V w.heap.size 42 #[.slice a0 n0 c0, .slice a1 n1 c1, .bool b, .slice a2 n2 c2] := by rw [← hV]; exact Box.new _ _ _
  obtain ⟨v0, v1, v2, v3⟩ := box4 bx
  clear r0 r1 bx
  go_enter Tryz.func201, Tryz.ntmps201
  go_wp2
  go_loop [5] (fun i => (∃ p : Nat, i = .int .i64 p ∧ p < n1 ∧ Hid (fdB (bkL C n1 (n1 - 1 - p)) j = none)) ∨ (i = .int .i64 (-1) ∧ Hid (fdB (bkL C n1 n1) j = none))) (fun i => (intOf i + 1).toNat)
  case atStart =>
    rcases Nat.eq_zero_or_pos n1 with h | h
    · subst h
      exact .inr ⟨rfl, rfl⟩
    · refine .inl ⟨n1 - 1, by go_num, by omega, ?_⟩
      rw [show n1 - 1 - (n1 - 1) = 0 by omega]
      exact rfl
  case round =>
    rcases hrel with ⟨p, rfl, hp, HN⟩ | ⟨rfl, HN⟩
    · obtain ⟨bb, off, ha, hbl, hc⟩ := R1.out.2 (by omega)
      obtain ⟨⟨xa, xt⟩, hx⟩ : ∃ x, x = C.getD p dP := ⟨_, rfl⟩
      obtain ⟨d0, d1⟩ := hc p hp
      rw [← hx] at d0 d1
      have e0 : V.cell? ⟨bb, off + p * 2, none⟩ = some (.int .i64 xa) := (HB.out.cell (p := ⟨bb, off + p * 2, none⟩) hbl).trans d0
      have e1 : V.cell? ⟨bb, off + p * 2 + 1, none⟩ = some (.string xt) := (HB.out.cell (p := ⟨bb, off + p * 2 + 1, none⟩) hbl).trans d1
      rw [ha] at v1
      have HA : Hid (bkL C n1 (n1 - 1 - p + 1) = bkL C n1 (n1 - 1 - p) ++ [(p, xa, xt)]) := bkL_at hp hx
      clear hc hx d0 d1 ha
      by_cases he : xa = (j : Int)
      · have hbe : (xa == (j : Int)) = true := by simpa using he
        have E : Hid (rdS S C j = xt) := by
          have h2 : fdB (bkL C n1 (n1 - 1 - p + 1)) j = some (p, xa, xt) := by rw [HA.out]; exact fdB_yes HN.out he
          exact rdS_hit (S := S) (C := C) (k := n1 - 1 - p + 1) (show n1 - 1 - p + 1 ≤ C.length by omega) (by rw [l1]; exact h2)
        clear he
        go_wp2
        go_ret
        exact ⟨ret_str E.out.symm, HB.out⟩
      · have hbe : (xa == (j : Int)) = false := by simpa using he
        have HN2 : Hid (fdB (bkL C n1 (n1 - 1 - p + 1)) j = none) := by unfold Hid; rw [HA.out]; exact fdB_no HN.out he
        clear he
        go_wp2
        go_round
        case rel =>
          rcases Nat.eq_zero_or_pos p with h | h
          · subst h
            refine .inr ⟨by go_num, ?_⟩
            have h2 := HN2.out
            rw [show n1 - 1 - 0 + 1 = n1 by omega] at h2
            exact h2
          · refine .inl ⟨p - 1, by go_num, by omega, ?_⟩
            rw [show n1 - 1 - (p - 1) = n1 - 1 - p + 1 by omega]
            exact HN2.out
        case measure => simp [intOf]
    · obtain ⟨b0, off0, ha, hbl, hc⟩ := R0.out.2 (by omega)
      obtain ⟨s, hs⟩ : ∃ s, s = S.getD j ⟨#[]⟩ := ⟨_, rfl⟩
      have cS : V.cell? ⟨b0, off0 + j, none⟩ = some (.string s) := by rw [HB.out.cell (p := ⟨b0, off0 + j, none⟩) hbl, hc j hj, hs]; exact map_get _ _ _ _ (by omega)
      have E : Hid (rdS S C j = s) := by unfold Hid; rw [hs]; exact rdS_miss (by rw [l1]; exact HN.out)
      rw [ha] at v0
      clear hc hs ha
      go_wp2
      go_ret
      exact ⟨ret_str E.out.symm, HB.out⟩
def readT (D : DD) (x : Int) : ByteArray := if okD D = true then (if 0 ≤ x ∧ x < D.S.length then rdS D.S D.C x.toNat else ⟨#[]⟩) else ⟨#[]⟩
def readC (D : DD) (x : Int) : Int := if okD D = true then (if 0 ≤ x ∧ x < D.S.length then 0 else 4) else 1

end Go.Proofs.YtkpopingbbaomaaGreatDoor
namespace Go.Proofs.YtkpopingbbaomaaGreatDoor
open Go Go.RowKit
attribute [local go_sem ↓] Go.wp_at_zero Go.wp_at_succ


set_option maxRecDepth 100000 in
set_option maxHeartbeats 2000000 in
theorem c_sealed (base g L cv : Nat) (zs : List Int) (w : World) (hown : w.ownsRow base 5 1 (.slice (some ⟨g, 0, none⟩) L cv) L (zs.map (Value.int .u8))) (hbase : base ≤ w.heap.size) (hz : ∀ z ∈ zs, 0 ≤ z ∧ z < 256) (hL : L ≤ 60000) (C : Int) (hC : C = (Crc.crc zs : Nat)) :
    Calls Tryz.prog 262 #[.slice (some ⟨g, 0, none⟩) L cv] w fun e w' => (∃ a' c', e = .returned (.slice a' (L + 4) c') ∧ w'.ownsRow base 5 1 (.slice a' (L + 4) c') (L + 4) ((zs ++ sumZ C).map (Value.int .u8))) ∧ Below base w w' := by
  obtain ⟨i0, g9, g90, g91, g92⟩ := info_parts infoB
  have hi : Hid (Tryz.prog.info? 5 = some i0) := g9
  have hz0 : Hid (i0.zero = some (.int .u8 0)) := g90
  have hz1 : Hid (i0.size = 1) := g91
  have hz2 : Hid (i0.bytes = 1) := g92
  clear g9 g90 g91 g92
  have hl := crc_lt zs hz
  have hC0 : 0 ≤ C := by omega
  have hC1 : C < 4294967296 := by omega
  have HO : Hid (w.ownsRow base 5 1 (.slice (some ⟨g, 0, none⟩) L cv) L (zs.map (Value.int .u8))) := hown
  have CK : Hid (Calls Tryz.prog 296 #[.slice (some ⟨g, 0, none⟩) L cv] w fun e w' => e = .returned (.int .i64 C) ∧ w' = w) := by
    rw [hC]
    exact c14 _ L cv zs w (rd_of_V (RdV.own hown) hz) (by omega)
  clear hown hz hl hC
  go_enter Tryz.func262, Tryz.ntmps262
  go_wp2_with fail
  refine CK.out.mono ?_
  rintro e w1 ⟨rfl, hq⟩
  have hq' := hq.symm
  subst hq'
  clear hq CK
  go_wp2_with fail
  refine (c_num4 C w hC0 hC1).mono ?_
  rintro e w2 ⟨g2, c2, rfl, o2, hb⟩
  have B2 : Hid (Below w.heap.size w w2) := hb
  have O2 : Hid (w2.ownsRow w.heap.size 5 1 (.slice (some ⟨g2, 0, none⟩) 4 c2) 4 ((sumZ C).map (Value.int .u8))) := o2
  have HO2 : Hid (w2.ownsRow base 5 1 (.slice (some ⟨g, 0, none⟩) L cv) L (zs.map (Value.int .u8))) := own_below HO.out hb
  have hg : base ≤ g ∧ g < w.heap.size := HO.out.lt g rfl
  clear hb o2 HO
  have q12 := B2.out.size
  go_wp2_with (
    at_builtin; refine app_any _ rfl (.tmp 3) (.tmp 6) 237 rfl base 5 i0 (.int .u8 0) 1 1 Tryz.underlying237 hi.out hz0.out hz1.out hz2.out rfl (by omega) (.slice (some ⟨g, 0, none⟩) L cv) L (zs.map (Value.int .u8)) rfl HO2.out (some ⟨g2, 0, none⟩) 4 c2 ((sumZ C).map (Value.int .u8)) rfl (fun h => by cases h) rfl (fun ad e => by cases e; exact O2.out.cells rfl) (map_one _ (fun _ => rfl) _) (by unfold maxLen; omega) (by omega) (by omega) ?_
    intro a3 c3 w3 ho hg0 hk0
    have hgg : w2.grownBy w3 (some g) := hg0
    have B3 : Hid (Below base w w3) := (B2.out.mono hbase).grown hgg (by omega) (fun k h => by cases h; exact hg.1)
    have O3 : Hid (w3.ownsRow base 5 1 (.slice a3 (L + 4) c3) (L + 4) ((zs ++ sumZ C).map (Value.int .u8))) := by unfold Hid; rw [List.map_append]; exact ho
    clear ho hg0 hk0 hgg)
  go_ret
  exact ⟨⟨a3, c3, rfl, O3.out⟩, B3.out⟩

end Go.Proofs.YtkpopingbbaomaaGreatDoor
