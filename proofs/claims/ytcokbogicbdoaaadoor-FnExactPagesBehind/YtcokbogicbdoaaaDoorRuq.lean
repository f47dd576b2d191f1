/-
  Bytes whose sum stands behind them: the walk of the program's unseal.
-/
import Derived.Test.YtcokbogicbdoaaaDoorZzaf
import Derived.Test.YtcokbogicbdoaaaDoorRsq
import Derived.Laws.Cover3
namespace Go.Proofs.YtcokbogicbdoaaaDoor
open Go Go.RowKit
attribute [local go_sem ↓] Go.wp_at_zero Go.wp_at_succ


def headZ (zs : List Int) : List Int := zs.take (zs.length - 4)
def tailZ (zs : List Int) : List Int := zs.drop (zs.length - 4)
def unsB (zs : List Int) : Bool := decide (4 ≤ zs.length) && decide (sumZ (Crc.crc (headZ zs) : Nat) = tailZ zs)
theorem uns_lo {zs : List Int} (h : zs.length < 4) : unsB zs = false := by unfold unsB; rw [decide_eq_false (by omega)]; rfl
theorem uns_no {zs : List Int} (h : ¬ sumZ (Crc.crc (headZ zs) : Nat) = tailZ zs) : unsB zs = false := by unfold unsB; rw [decide_eq_false h]; simp
theorem uns_yes {zs : List Int} (h4 : 4 ≤ zs.length) (h : sumZ (Crc.crc (headZ zs) : Nat) = tailZ zs) : unsB zs = true := by unfold unsB; rw [decide_eq_true h, decide_eq_true h4]; rfl
theorem tail4 {zs : List Int} (h4 : 4 ≤ zs.length) : ∃ t0 t1 t2 t3, tailZ zs = [t0, t1, t2, t3] ∧ t0 = zs.getD (zs.length - 4) 0 ∧ t1 = zs.getD (zs.length - 4 + 1) 0 ∧ t2 = zs.getD (zs.length - 4 + 2) 0 ∧ t3 = zs.getD (zs.length - 4 + 3) 0 := by
  refine ⟨_, _, _, _, ?_, rfl, rfl, rfl, rfl⟩
  unfold tailZ
  apply List.ext_getElem
  · simp; omega
  intro i h1 h2
  simp at h2
  rw [List.getElem_drop]
  have : i = 0 ∨ i = 1 ∨ i = 2 ∨ i = 3 := by omega
  rcases this with rfl | rfl | rfl | rfl
  all_goals
    simp only [List.getElem_cons_zero, List.getElem_cons_succ, Nat.add_zero]
    rw [List.getD_eq_getElem?_getD, List.getElem?_eq_getElem (by omega)]
    rfl
theorem head_bytes {zs : List Int} (hz : ∀ z ∈ zs, 0 ≤ z ∧ z < 256) : ∀ z ∈ headZ zs, 0 ≤ z ∧ z < 256 := fun z h => hz z (List.mem_of_mem_take h)
theorem head_rd {w : World} {a : Option Addr} {n : Nat} {zs : List Int} (h : RdV w a n (zs.map (Value.int .u8))) : RdV w a (n - 4) ((headZ zs).map (Value.int .u8)) := by
  obtain ⟨hl, hc⟩ := h
  simp only [List.length_map] at hl
  refine ⟨by simp [headZ]; omega, fun h0 => ?_⟩
  obtain ⟨b, off, e, hlt, hc⟩ := hc (by omega)
  refine ⟨b, off, e, hlt, fun i hi => ?_⟩
  rw [hc i (by omega)]
  unfold headZ
  rw [List.getElem?_map, List.getElem?_map, List.getElem?_take_of_lt (by omega)]
def unsV (b off n : Nat) (u : Bool) : Value := if u then .slice (some ⟨b, off, none⟩) (n - 4) (n - 4) else .slice none 0 0
set_option maxRecDepth 100000 in
set_option maxHeartbeats 4000000 in
theorem c_unseal (b off n cap : Nat) (zs : List Int) (w : World) (hr : RdV w (some ⟨b, off, none⟩) n (zs.map (Value.int .u8))) (hz : ∀ z ∈ zs, 0 ≤ z ∧ z < 256) (hn : n ≤ 65536) (hcap : n ≤ cap) (h4 : 4 ≤ n) (ht : TabH w) :
    Calls Tryd.prog 73 #[.slice (some ⟨b, off, none⟩) n cap] w fun e w' => e = .returned (.tuple #[unsV b off n (unsB zs), .bool (unsB zs)]) ∧ Below w.heap.size w w' := by
  have hl : zs.length = n := by simpa using hr.1
  obtain ⟨t0, t1, t2, t3, ht4, e0, e1, e2, e3⟩ := tail4 (zs := zs) (by omega)
  obtain ⟨C, hC⟩ : ∃ C : Int, C = (Crc.crc (headZ zs) : Nat) := ⟨_, rfl⟩
  have SUM : Hid (∀ W cp, Below w.heap.size w W → Calls Tryd.prog 83 #[.slice (some ⟨b, off, none⟩) (n - 4) cp] W fun e w' => e = .returned (.agg #[.int .u8 (C / 16777216), .int .u8 (C / 65536 % 256), .int .u8 (C / 256 % 256), .int .u8 (C % 256)]) ∧ Below W.heap.size W w') := fun W cp hW => c_sumOf _ (n - 4) cp (headZ zs) W ((head_rd hr).below hW) (head_bytes hz) (by omega) (ht.below hW) C hC
  obtain ⟨b', off', e, hbl, hc⟩ := hr.2 (by omega)
  cases e
  rw [hl] at e0 e1 e2 e3
  have c0 : w.cell? ⟨b, off + (n - 4), none⟩ = some (.int .u8 t0) := by rw [e0, hc _ (by omega)]; exact map_get _ _ _ _ (by omega)
  have c1 : w.cell? ⟨b, off + (n - 4) + 1, none⟩ = some (.int .u8 t1) := by rw [e1, Nat.add_assoc, hc _ (by omega)]; exact map_get _ _ _ _ (by omega)
  have c2 : w.cell? ⟨b, off + (n - 4) + 2, none⟩ = some (.int .u8 t2) := by rw [e2, Nat.add_assoc, hc _ (by omega)]; exact map_get _ _ _ _ (by omega)
  have c3 : w.cell? ⟨b, off + (n - 4) + 3, none⟩ = some (.int .u8 t3) := by rw [e3, Nat.add_assoc, hc _ (by omega)]; exact map_get _ _ _ _ (by omega)
  have UE : Hid ((C / 16777216 = t0 ∧ C / 65536 % 256 = t1 ∧ C / 256 % 256 = t2 ∧ C % 256 = t3 → unsB zs = true) ∧ (¬ (C / 16777216 = t0 ∧ C / 65536 % 256 = t1 ∧ C / 256 % 256 = t2 ∧ C % 256 = t3) → unsB zs = false)) := by
    refine ⟨fun h => uns_yes (by omega) (by rw [← hC, ht4]; unfold sumZ; rw [h.1, h.2.1, h.2.2.1, h.2.2.2]), fun h => uns_no (fun e => h ?_)⟩
    rw [← hC, ht4] at e
    simp [sumZ] at e
    exact e
  have hm4 : (n : Int) - 4 = ((n - 4 : Nat) : Int) := by omega
  obtain ⟨m, hm⟩ : ∃ m, m = n - 4 := ⟨_, rfl⟩
  rw [← hm] at c0 c1 c2 c3 hm4 SUM
  have hmn : n = m + 4 := by omega
  subst hmn
  clear hr hz ht hl ht4 e0 e1 e2 e3 hC hc hm
  have harr : ∀ W : World, (Instr.arrayAt 132 (.slice (some ⟨b, off + m, none⟩) 4 (cap - m))).run Tryd.prog W = .ok (.pointer (some ⟨b, off + m, none⟩)) W := fun W => run_arrayAt W 132 5 4 _ 4 (cap - m) Tryd.underlying132 (Nat.le_refl _)
  have z0 : ¬ (m : Int) < 0 := by omega
  have z1 : (0 : Int) ≤ (m : Int) := by omega
  have z2 : (m : Int) ≤ (cap : Int) := by omega
  have z3 : (m : Int) ≤ ((m + 4 : Nat) : Int) := by omega
  have z4 : (m : Int) ≤ (m : Int) + 4 := by omega
  have z5 : (m : Int) + 4 ≤ (cap : Int) := by omega
  by_cases hu : C / 16777216 = t0 ∧ C / 65536 % 256 = t1 ∧ C / 256 % 256 = t2 ∧ C % 256 = t3
  · have E : Hid (unsB zs = true) := UE.out.1 hu
    obtain ⟨rfl, rfl, rfl, rfl⟩ := hu
    have heq : ∀ W : World, (Op.equalIn 10000 132 (.agg #[.int .u8 (C / 16777216), .int .u8 (C / 65536 % 256), .int .u8 (C / 256 % 256), .int .u8 (C % 256)]) (.agg #[.int .u8 (C / 16777216), .int .u8 (C / 65536 % 256), .int .u8 (C / 256 % 256), .int .u8 (C % 256)])).run Tryd.prog W = .ok true W := fun W => by rw [eq4]; simp
    clear UE
    go_enter Tryd.func73, Tryd.ntmps73
    go_wp2_with fail
    go_region_held3 (fun x => x.cell? ⟨b, off + m, none⟩ = some (.int .u8 (C / 16777216)) ∧ x.cell? ⟨b, off + m + 1, none⟩ = some (.int .u8 (C / 65536 % 256)) ∧ x.cell? ⟨b, off + m + 2, none⟩ = some (.int .u8 (C / 256 % 256)) ∧ x.cell? ⟨b, off + m + 3, none⟩ = some (.int .u8 (C % 256)))
      (first | exact k1 | go_keep)
      (first
        | (go_at_call 83; refine (SUM.out _ _ (by exact (Below.refl _ _).drew)).mono ?_; rintro e w1 ⟨rfl, hb⟩
           have k1 : w1.cell? ⟨b, off + m, none⟩ = some (.int .u8 (C / 16777216)) ∧ w1.cell? ⟨b, off + m + 1, none⟩ = some (.int .u8 (C / 65536 % 256)) ∧ w1.cell? ⟨b, off + m + 2, none⟩ = some (.int .u8 (C / 256 % 256)) ∧ w1.cell? ⟨b, off + m + 3, none⟩ = some (.int .u8 (C % 256)) := ⟨far6 hb c0, far6 hb c1, far6 hb c2, far6 hb c3⟩))
    all_goals
      have B1 : Hid (Below w.heap.size w w1) := (Below.refl w.heap.size w).drew.trans hb
      clear hb k1 c0 c1 c2 c3 SUM
      go_wp2
      go_ret2
      rw [E.out]
      exact ⟨rfl, B1.out⟩
  · have E : Hid (unsB zs = false) := UE.out.2 hu
    have heq : ∀ W : World, (Op.equalIn 10000 132 (.agg #[.int .u8 (C / 16777216), .int .u8 (C / 65536 % 256), .int .u8 (C / 256 % 256), .int .u8 (C % 256)]) (.agg #[.int .u8 t0, .int .u8 t1, .int .u8 t2, .int .u8 t3])).run Tryd.prog W = .ok false W := fun W => by
      rw [eq4]
      have : (C / 16777216 == t0 && (C / 65536 % 256 == t1 && (C / 256 % 256 == t2 && C % 256 == t3))) = false := by
        rw [Bool.eq_false_iff]
        intro e
        simp only [Bool.and_eq_true, beq_iff_eq] at e
        exact hu e
      rw [this]
    clear UE hu
    go_enter Tryd.func73, Tryd.ntmps73
    go_wp2_with fail
    go_region_held3 (fun x => x.cell? ⟨b, off + m, none⟩ = some (.int .u8 t0) ∧ x.cell? ⟨b, off + m + 1, none⟩ = some (.int .u8 t1) ∧ x.cell? ⟨b, off + m + 2, none⟩ = some (.int .u8 t2) ∧ x.cell? ⟨b, off + m + 3, none⟩ = some (.int .u8 t3))
      (first | exact k1 | go_keep)
      (first
        | (go_at_call 83; refine (SUM.out _ _ (by exact (Below.refl _ _).drew)).mono ?_; rintro e w1 ⟨rfl, hb⟩
           have k1 : w1.cell? ⟨b, off + m, none⟩ = some (.int .u8 t0) ∧ w1.cell? ⟨b, off + m + 1, none⟩ = some (.int .u8 t1) ∧ w1.cell? ⟨b, off + m + 2, none⟩ = some (.int .u8 t2) ∧ w1.cell? ⟨b, off + m + 3, none⟩ = some (.int .u8 t3) := ⟨far6 hb c0, far6 hb c1, far6 hb c2, far6 hb c3⟩))
    all_goals
      have B1 : Hid (Below w.heap.size w w1) := (Below.refl w.heap.size w).drew.trans hb
      clear hb k1 c0 c1 c2 c3 SUM heq
      go_wp2
      go_ret2
      rw [E.out]
      exact ⟨rfl, B1.out⟩
theorem c_unseal_lo (a : Option Addr) (n cap : Nat) (w : World) (h4 : n < 4) :
    Calls Tryd.prog 73 #[.slice a n cap] w fun e w' => e = .returned (.tuple #[.slice none 0 0, .bool false]) ∧ ∃ q, w' = w.drewN q := by
  have z0 : (n : Int) - 4 < 0 := by omega
  have z1 : (n : Int) < 4 := by omega
  go_enter Tryd.func73, Tryd.ntmps73
  go_wp2_with fail
  go_quiet (fail)
  go_wp2
  go_ret2
  exact ⟨rfl, _, rfl⟩

end Go.Proofs.YtcokbogicbdoaaaDoor
