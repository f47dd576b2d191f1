/-
  How deep a part of two is.
-/
import Derived.Test.YtbpfpjmjmkpjoaaGreatDoorXk
import Derived.Deep.RegionHeld3
import Derived.Deep.DrawnRows
namespace Go.Proofs.YtbpfpjmjmkpjoaaGreatDoor
open Go Go.RowKit
attribute [local go_sem ↓] Go.wp_at_zero Go.wp_at_succ
set_option linter.unusedVariables false

theorem wrapI {z : Int} (h0 : 0 ≤ z) (h1 : z ≤ 2000000) : IntKind.i64.wrap z = z := by
  simp [IntKind.wrap, IntKind.bits, IntKind.signed]
  omega
set_option maxRecDepth 100000 in
set_option maxHeartbeats 4000000 in
theorem c_dbin_concon (op : Int) (k1 n1 : Int) (t1 : ByteArray) (k2 n2 : Int) (t2 : ByteArray) (hl : DepC (PT.con k1 n1 t1)) (hr : DepC (PT.con k2 n2 t2)) (dl : (PT.con k1 n1 t1).dep ≤ 1048576) (dr : (PT.con k2 n2 t2).dep ≤ 1048576) : DepC (.bin op (PT.con k1 n1 t1) (PT.con k2 n2 t2)) := by
  intro w
  have HE : Hid ((((PT.bin op (PT.con k1 n1 t1) (PT.con k2 n2 t2)).dep : Nat) : Int) = 1 + (max (PT.con k1 n1 t1).dep (PT.con k2 n2 t2).dep : Nat)) := by unfold Hid; rw [show (PT.bin op (PT.con k1 n1 t1) (PT.con k2 n2 t2)).dep = max (PT.con k1 n1 t1).dep (PT.con k2 n2 t2).dep + 1 from rfl]; omega
  obtain ⟨x, hx⟩ : ∃ x, x = (PT.con k1 n1 t1).dep := ⟨_, rfl⟩
  obtain ⟨y, hy⟩ : ∃ y, y = (PT.con k2 n2 t2).dep := ⟨_, rfl⟩
  have CL : Hid (∀ W, Calls Tryz.prog 267 #[.agg #[.int .i64 k1, .int .i64 n1, .string t1]] W fun e w' => e = .returned (.int .i64 (x : Int)) ∧ Below W.heap.size W w') := by rw [hx]; exact hl
  have CR : Hid (∀ W, Calls Tryz.prog 267 #[.agg #[.int .i64 k2, .int .i64 n2, .string t2]] W fun e w' => e = .returned (.int .i64 (y : Int)) ∧ Below W.heap.size W w') := by rw [hy]; exact hr
  rw [← hx, ← hy] at HE
  rw [← hx] at dl
  rw [← hy] at dr
  clear hx hy hl hr
  have HE' : Hid (∀ d : Int, d = ((PT.bin op (PT.con k1 n1 t1) (PT.con k2 n2 t2)).dep : Nat) → d = 1 + (max x y : Nat)) := fun d hd => by rw [hd]; exact HE.out
  obtain ⟨V, hV⟩ : ∃ V, w.alloc (.cells #[.int .i64 op, .iface 125 (.agg #[.int .i64 k1, .int .i64 n1, .string t1]), .iface 125 (.agg #[.int .i64 k2, .int .i64 n2, .string t2])] 133) = V := ⟨_, rfl⟩
  have B0 : Hid (Below w.heap.size w V) := by unfold Hid; rw [← hV]; exact (Below.refl _ _).alloc (Nat.le_refl _) _
  have X0 : Box V w.heap.size 133 #[.int .i64 op, .iface 125 (.agg #[.int .i64 k1, .int .i64 n1, .string t1]), .iface 125 (.agg #[.int .i64 k2, .int .i64 n2, .string t2])] := by rw [← hV]; exact Box.new _ _ _
  have q1 : V.cell? ⟨w.heap.size, 1, none⟩ = some (.iface 125 (.agg #[.int .i64 k1, .int .i64 n1, .string t1])) := X0.cell 1
  have q2 : V.cell? ⟨w.heap.size, 2, none⟩ = some (.iface 125 (.agg #[.int .i64 k2, .int .i64 n2, .string t2])) := X0.cell 2
  have KB : Hid (V.drew.cell? ⟨w.heap.size, 1, none⟩ = some (.iface 125 (.agg #[.int .i64 k1, .int .i64 n1, .string t1])) ∧ V.drew.cell? ⟨w.heap.size, 2, none⟩ = some (.iface 125 (.agg #[.int .i64 k2, .int .i64 n2, .string t2]))) := ⟨q1, q2⟩
  obtain ⟨D, hD⟩ : ∃ D : Int, D = ((PT.bin op (PT.con k1 n1 t1) (PT.con k2 n2 t2)).dep : Nat) := ⟨_, rfl⟩
  rw [← hD]
  have HD : Hid (D = 1 + (max x y : Nat)) := HE'.out D hD
  clear HE HE' hD X0
  unfold PT.enc
  by_cases hxy : x < y
  all_goals go_enter Tryz.func270, Tryz.ntmps270
  all_goals go_wp2_with fail
  all_goals go_region_held3 (fun z => z.cell? ⟨w.heap.size, 1, none⟩ = some (.iface 125 (.agg #[.int .i64 k1, .int .i64 n1, .string t1])) ∧ z.cell? ⟨w.heap.size, 2, none⟩ = some (.iface 125 (.agg #[.int .i64 k2, .int .i64 n2, .string t2])))
    (first | with_reducible exact KB.out | with_reducible exact K2.out | with_reducible exact K1.out | go_keep)
    (first | (have HH := H1
              clear HH
              refine (CR.out _).mono ?_
              rintro e w2 ⟨rfl, hb2⟩
              have H2 : Below V.heap.size V w2 := H1.trans (Below.trans (by first | exact Below.refl _ _ | exact (Below.refl _ _).drew) (hb2.mono (by first | exact H1.size | simp)))
              have K2 : Hid (w2.cell? ⟨w.heap.size, 1, none⟩ = some (.iface 125 (.agg #[.int .i64 k1, .int .i64 n1, .string t1])) ∧ w2.cell? ⟨w.heap.size, 2, none⟩ = some (.iface 125 (.agg #[.int .i64 k2, .int .i64 n2, .string t2]))) := ⟨far6 H2 q1, far6 H2 q2⟩)
           | (refine (CL.out _).mono ?_
              rintro e w1 ⟨rfl, hb1⟩
              have H1 : Below V.heap.size V w1 := Below.trans (by first | exact Below.refl _ _ | exact (Below.refl _ _).drew) (hb1.mono (by first | exact Nat.le_refl _ | simp))
              have K1 : Hid (w1.cell? ⟨w.heap.size, 1, none⟩ = some (.iface 125 (.agg #[.int .i64 k1, .int .i64 n1, .string t1])) ∧ w1.cell? ⟨w.heap.size, 2, none⟩ = some (.iface 125 (.agg #[.int .i64 k2, .int .i64 n2, .string t2]))) := ⟨far6 H1 q1, far6 H1 q2⟩))
  all_goals go_wp2
  all_goals go_ret
  all_goals exact ⟨ret_int (by rw [HD.out, wrapI (by omega) (by omega)]; omega), B0.out.trans (H2.mono B0.out.size)⟩
set_option maxRecDepth 100000 in
set_option maxHeartbeats 4000000 in
theorem c_dbin_concol (op : Int) (k1 n1 : Int) (t1 : ByteArray) (c2 : Int) (hl : DepC (PT.con k1 n1 t1)) (hr : DepC (PT.col c2)) (dl : (PT.con k1 n1 t1).dep ≤ 1048576) (dr : (PT.col c2).dep ≤ 1048576) : DepC (.bin op (PT.con k1 n1 t1) (PT.col c2)) := by
  intro w
  have HE : Hid ((((PT.bin op (PT.con k1 n1 t1) (PT.col c2)).dep : Nat) : Int) = 1 + (max (PT.con k1 n1 t1).dep (PT.col c2).dep : Nat)) := by unfold Hid; rw [show (PT.bin op (PT.con k1 n1 t1) (PT.col c2)).dep = max (PT.con k1 n1 t1).dep (PT.col c2).dep + 1 from rfl]; omega
  obtain ⟨x, hx⟩ : ∃ x, x = (PT.con k1 n1 t1).dep := ⟨_, rfl⟩
  obtain ⟨y, hy⟩ : ∃ y, y = (PT.col c2).dep := ⟨_, rfl⟩
  have CL : Hid (∀ W, Calls Tryz.prog 267 #[.agg #[.int .i64 k1, .int .i64 n1, .string t1]] W fun e w' => e = .returned (.int .i64 (x : Int)) ∧ Below W.heap.size W w') := by rw [hx]; exact hl
  have CR : Hid (∀ W, Calls Tryz.prog 268 #[.agg #[.int .i64 c2]] W fun e w' => e = .returned (.int .i64 (y : Int)) ∧ Below W.heap.size W w') := by rw [hy]; exact hr
  rw [← hx, ← hy] at HE
  rw [← hx] at dl
  rw [← hy] at dr
  clear hx hy hl hr
  have HE' : Hid (∀ d : Int, d = ((PT.bin op (PT.con k1 n1 t1) (PT.col c2)).dep : Nat) → d = 1 + (max x y : Nat)) := fun d hd => by rw [hd]; exact HE.out
  obtain ⟨V, hV⟩ : ∃ V, w.alloc (.cells #[.int .i64 op, .iface 125 (.agg #[.int .i64 k1, .int .i64 n1, .string t1]), .iface 128 (.agg #[.int .i64 c2])] 133) = V := ⟨_, rfl⟩
  have B0 : Hid (Below w.heap.size w V) := by unfold Hid; rw [← hV]; exact (Below.refl _ _).alloc (Nat.le_refl _) _
  have X0 : Box V w.heap.size 133 #[.int .i64 op, .iface 125 (.agg #[.int .i64 k1, .int .i64 n1, .string t1]), .iface 128 (.agg #[.int .i64 c2])] := by rw [← hV]; exact Box.new _ _ _
  have q1 : V.cell? ⟨w.heap.size, 1, none⟩ = some (.iface 125 (.agg #[.int .i64 k1, .int .i64 n1, .string t1])) := X0.cell 1
  have q2 : V.cell? ⟨w.heap.size, 2, none⟩ = some (.iface 128 (.agg #[.int .i64 c2])) := X0.cell 2
  have KB : Hid (V.drew.cell? ⟨w.heap.size, 1, none⟩ = some (.iface 125 (.agg #[.int .i64 k1, .int .i64 n1, .string t1])) ∧ V.drew.cell? ⟨w.heap.size, 2, none⟩ = some (.iface 128 (.agg #[.int .i64 c2]))) := ⟨q1, q2⟩
  obtain ⟨D, hD⟩ : ∃ D : Int, D = ((PT.bin op (PT.con k1 n1 t1) (PT.col c2)).dep : Nat) := ⟨_, rfl⟩
  rw [← hD]
  have HD : Hid (D = 1 + (max x y : Nat)) := HE'.out D hD
  clear HE HE' hD X0
  unfold PT.enc
  by_cases hxy : x < y
  all_goals go_enter Tryz.func270, Tryz.ntmps270
  all_goals go_wp2_with fail
  all_goals go_region_held3 (fun z => z.cell? ⟨w.heap.size, 1, none⟩ = some (.iface 125 (.agg #[.int .i64 k1, .int .i64 n1, .string t1])) ∧ z.cell? ⟨w.heap.size, 2, none⟩ = some (.iface 128 (.agg #[.int .i64 c2])))
    (first | with_reducible exact KB.out | with_reducible exact K2.out | with_reducible exact K1.out | go_keep)
    (first | (have HH := H1
              clear HH
              refine (CR.out _).mono ?_
              rintro e w2 ⟨rfl, hb2⟩
              have H2 : Below V.heap.size V w2 := H1.trans (Below.trans (by first | exact Below.refl _ _ | exact (Below.refl _ _).drew) (hb2.mono (by first | exact H1.size | simp)))
              have K2 : Hid (w2.cell? ⟨w.heap.size, 1, none⟩ = some (.iface 125 (.agg #[.int .i64 k1, .int .i64 n1, .string t1])) ∧ w2.cell? ⟨w.heap.size, 2, none⟩ = some (.iface 128 (.agg #[.int .i64 c2]))) := ⟨far6 H2 q1, far6 H2 q2⟩)
           | (refine (CL.out _).mono ?_
              rintro e w1 ⟨rfl, hb1⟩
              have H1 : Below V.heap.size V w1 := Below.trans (by first | exact Below.refl _ _ | exact (Below.refl _ _).drew) (hb1.mono (by first | exact Nat.le_refl _ | simp))
              have K1 : Hid (w1.cell? ⟨w.heap.size, 1, none⟩ = some (.iface 125 (.agg #[.int .i64 k1, .int .i64 n1, .string t1])) ∧ w1.cell? ⟨w.heap.size, 2, none⟩ = some (.iface 128 (.agg #[.int .i64 c2]))) := ⟨far6 H1 q1, far6 H1 q2⟩))
  all_goals go_wp2
  all_goals go_ret
  all_goals exact ⟨ret_int (by rw [HD.out, wrapI (by omega) (by omega)]; omega), B0.out.trans (H2.mono B0.out.size)⟩
set_option maxRecDepth 100000 in
set_option maxHeartbeats 4000000 in
theorem c_dbin_conuna (op : Int) (k1 n1 : Int) (t1 : ByteArray) (o2 : Int) (p2 : PT) (hl : DepC (PT.con k1 n1 t1)) (hr : DepC (PT.una o2 p2)) (dl : (PT.con k1 n1 t1).dep ≤ 1048576) (dr : (PT.una o2 p2).dep ≤ 1048576) : DepC (.bin op (PT.con k1 n1 t1) (PT.una o2 p2)) := by
  intro w
  have HE : Hid ((((PT.bin op (PT.con k1 n1 t1) (PT.una o2 p2)).dep : Nat) : Int) = 1 + (max (PT.con k1 n1 t1).dep (PT.una o2 p2).dep : Nat)) := by unfold Hid; rw [show (PT.bin op (PT.con k1 n1 t1) (PT.una o2 p2)).dep = max (PT.con k1 n1 t1).dep (PT.una o2 p2).dep + 1 from rfl]; omega
  obtain ⟨x, hx⟩ : ∃ x, x = (PT.con k1 n1 t1).dep := ⟨_, rfl⟩
  obtain ⟨y, hy⟩ : ∃ y, y = (PT.una o2 p2).dep := ⟨_, rfl⟩
  have CL : Hid (∀ W, Calls Tryz.prog 267 #[.agg #[.int .i64 k1, .int .i64 n1, .string t1]] W fun e w' => e = .returned (.int .i64 (x : Int)) ∧ Below W.heap.size W w') := by rw [hx]; exact hl
  have CR : Hid (∀ W, Calls Tryz.prog 269 #[.agg #[.int .i64 o2, p2.enc]] W fun e w' => e = .returned (.int .i64 (y : Int)) ∧ Below W.heap.size W w') := by rw [hy]; exact hr
  rw [← hx, ← hy] at HE
  rw [← hx] at dl
  rw [← hy] at dr
  clear hx hy hl hr
  have HE' : Hid (∀ d : Int, d = ((PT.bin op (PT.con k1 n1 t1) (PT.una o2 p2)).dep : Nat) → d = 1 + (max x y : Nat)) := fun d hd => by rw [hd]; exact HE.out
  obtain ⟨V, hV⟩ : ∃ V, w.alloc (.cells #[.int .i64 op, .iface 125 (.agg #[.int .i64 k1, .int .i64 n1, .string t1]), .iface 130 (.agg #[.int .i64 o2, p2.enc])] 133) = V := ⟨_, rfl⟩
  have B0 : Hid (Below w.heap.size w V) := by unfold Hid; rw [← hV]; exact (Below.refl _ _).alloc (Nat.le_refl _) _
  have X0 : Box V w.heap.size 133 #[.int .i64 op, .iface 125 (.agg #[.int .i64 k1, .int .i64 n1, .string t1]), .iface 130 (.agg #[.int .i64 o2, p2.enc])] := by rw [← hV]; exact Box.new _ _ _
  have q1 : V.cell? ⟨w.heap.size, 1, none⟩ = some (.iface 125 (.agg #[.int .i64 k1, .int .i64 n1, .string t1])) := X0.cell 1
  have q2 : V.cell? ⟨w.heap.size, 2, none⟩ = some (.iface 130 (.agg #[.int .i64 o2, p2.enc])) := X0.cell 2
  have KB : Hid (V.drew.cell? ⟨w.heap.size, 1, none⟩ = some (.iface 125 (.agg #[.int .i64 k1, .int .i64 n1, .string t1])) ∧ V.drew.cell? ⟨w.heap.size, 2, none⟩ = some (.iface 130 (.agg #[.int .i64 o2, p2.enc]))) := ⟨q1, q2⟩
  obtain ⟨D, hD⟩ : ∃ D : Int, D = ((PT.bin op (PT.con k1 n1 t1) (PT.una o2 p2)).dep : Nat) := ⟨_, rfl⟩
  rw [← hD]
  have HD : Hid (D = 1 + (max x y : Nat)) := HE'.out D hD
  clear HE HE' hD X0
  unfold PT.enc
  by_cases hxy : x < y
  all_goals go_enter Tryz.func270, Tryz.ntmps270
  all_goals go_wp2_with fail
  all_goals go_region_held3 (fun z => z.cell? ⟨w.heap.size, 1, none⟩ = some (.iface 125 (.agg #[.int .i64 k1, .int .i64 n1, .string t1])) ∧ z.cell? ⟨w.heap.size, 2, none⟩ = some (.iface 130 (.agg #[.int .i64 o2, p2.enc])))
    (first | with_reducible exact KB.out | with_reducible exact K2.out | with_reducible exact K1.out | go_keep)
    (first | (have HH := H1
              clear HH
              refine (CR.out _).mono ?_
              rintro e w2 ⟨rfl, hb2⟩
              have H2 : Below V.heap.size V w2 := H1.trans (Below.trans (by first | exact Below.refl _ _ | exact (Below.refl _ _).drew) (hb2.mono (by first | exact H1.size | simp)))
              have K2 : Hid (w2.cell? ⟨w.heap.size, 1, none⟩ = some (.iface 125 (.agg #[.int .i64 k1, .int .i64 n1, .string t1])) ∧ w2.cell? ⟨w.heap.size, 2, none⟩ = some (.iface 130 (.agg #[.int .i64 o2, p2.enc]))) := ⟨far6 H2 q1, far6 H2 q2⟩)
           | (refine (CL.out _).mono ?_
              rintro e w1 ⟨rfl, hb1⟩
              have H1 : Below V.heap.size V w1 := Below.trans (by first | exact Below.refl _ _ | exact (Below.refl _ _).drew) (hb1.mono (by first | exact Nat.le_refl _ | simp))
              have K1 : Hid (w1.cell? ⟨w.heap.size, 1, none⟩ = some (.iface 125 (.agg #[.int .i64 k1, .int .i64 n1, .string t1])) ∧ w1.cell? ⟨w.heap.size, 2, none⟩ = some (.iface 130 (.agg #[.int .i64 o2, p2.enc]))) := ⟨far6 H1 q1, far6 H1 q2⟩))
  all_goals go_wp2
  all_goals go_ret
  all_goals exact ⟨ret_int (by rw [HD.out, wrapI (by omega) (by omega)]; omega), B0.out.trans (H2.mono B0.out.size)⟩
set_option maxRecDepth 100000 in
set_option maxHeartbeats 4000000 in
theorem c_dbin_conbin (op : Int) (k1 n1 : Int) (t1 : ByteArray) (o2 : Int) (p2 u2 : PT) (hl : DepC (PT.con k1 n1 t1)) (hr : DepC (PT.bin o2 p2 u2)) (dl : (PT.con k1 n1 t1).dep ≤ 1048576) (dr : (PT.bin o2 p2 u2).dep ≤ 1048576) : DepC (.bin op (PT.con k1 n1 t1) (PT.bin o2 p2 u2)) := by
  intro w
  have HE : Hid ((((PT.bin op (PT.con k1 n1 t1) (PT.bin o2 p2 u2)).dep : Nat) : Int) = 1 + (max (PT.con k1 n1 t1).dep (PT.bin o2 p2 u2).dep : Nat)) := by unfold Hid; rw [show (PT.bin op (PT.con k1 n1 t1) (PT.bin o2 p2 u2)).dep = max (PT.con k1 n1 t1).dep (PT.bin o2 p2 u2).dep + 1 from rfl]; omega
  obtain ⟨x, hx⟩ : ∃ x, x = (PT.con k1 n1 t1).dep := ⟨_, rfl⟩
  obtain ⟨y, hy⟩ : ∃ y, y = (PT.bin o2 p2 u2).dep := ⟨_, rfl⟩
  have CL : Hid (∀ W, Calls Tryz.prog 267 #[.agg #[.int .i64 k1, .int .i64 n1, .string t1]] W fun e w' => e = .returned (.int .i64 (x : Int)) ∧ Below W.heap.size W w') := by rw [hx]; exact hl
  have CR : Hid (∀ W, Calls Tryz.prog 270 #[.agg #[.int .i64 o2, p2.enc, u2.enc]] W fun e w' => e = .returned (.int .i64 (y : Int)) ∧ Below W.heap.size W w') := by rw [hy]; exact hr
  rw [← hx, ← hy] at HE
  rw [← hx] at dl
  rw [← hy] at dr
  clear hx hy hl hr
  have HE' : Hid (∀ d : Int, d = ((PT.bin op (PT.con k1 n1 t1) (PT.bin o2 p2 u2)).dep : Nat) → d = 1 + (max x y : Nat)) := fun d hd => by rw [hd]; exact HE.out
  obtain ⟨V, hV⟩ : ∃ V, w.alloc (.cells #[.int .i64 op, .iface 125 (.agg #[.int .i64 k1, .int .i64 n1, .string t1]), .iface 133 (.agg #[.int .i64 o2, p2.enc, u2.enc])] 133) = V := ⟨_, rfl⟩
  have B0 : Hid (Below w.heap.size w V) := by unfold Hid; rw [← hV]; exact (Below.refl _ _).alloc (Nat.le_refl _) _
  have X0 : Box V w.heap.size 133 #[.int .i64 op, .iface 125 (.agg #[.int .i64 k1, .int .i64 n1, .string t1]), .iface 133 (.agg #[.int .i64 o2, p2.enc, u2.enc])] := by rw [← hV]; exact Box.new _ _ _
  have q1 : V.cell? ⟨w.heap.size, 1, none⟩ = some (.iface 125 (.agg #[.int .i64 k1, .int .i64 n1, .string t1])) := X0.cell 1
  have q2 : V.cell? ⟨w.heap.size, 2, none⟩ = some (.iface 133 (.agg #[.int .i64 o2, p2.enc, u2.enc])) := X0.cell 2
  have KB : Hid (V.drew.cell? ⟨w.heap.size, 1, none⟩ = some (.iface 125 (.agg #[.int .i64 k1, .int .i64 n1, .string t1])) ∧ V.drew.cell? ⟨w.heap.size, 2, none⟩ = some (.iface 133 (.agg #[.int .i64 o2, p2.enc, u2.enc]))) := ⟨q1, q2⟩
  obtain ⟨D, hD⟩ : ∃ D : Int, D = ((PT.bin op (PT.con k1 n1 t1) (PT.bin o2 p2 u2)).dep : Nat) := ⟨_, rfl⟩
  rw [← hD]
  have HD : Hid (D = 1 + (max x y : Nat)) := HE'.out D hD
  clear HE HE' hD X0
  unfold PT.enc
  by_cases hxy : x < y
  all_goals go_enter Tryz.func270, Tryz.ntmps270
  all_goals go_wp2_with fail
  all_goals go_region_held3 (fun z => z.cell? ⟨w.heap.size, 1, none⟩ = some (.iface 125 (.agg #[.int .i64 k1, .int .i64 n1, .string t1])) ∧ z.cell? ⟨w.heap.size, 2, none⟩ = some (.iface 133 (.agg #[.int .i64 o2, p2.enc, u2.enc])))
    (first | with_reducible exact KB.out | with_reducible exact K2.out | with_reducible exact K1.out | go_keep)
    (first | (have HH := H1
              clear HH
              refine (CR.out _).mono ?_
              rintro e w2 ⟨rfl, hb2⟩
              have H2 : Below V.heap.size V w2 := H1.trans (Below.trans (by first | exact Below.refl _ _ | exact (Below.refl _ _).drew) (hb2.mono (by first | exact H1.size | simp)))
              have K2 : Hid (w2.cell? ⟨w.heap.size, 1, none⟩ = some (.iface 125 (.agg #[.int .i64 k1, .int .i64 n1, .string t1])) ∧ w2.cell? ⟨w.heap.size, 2, none⟩ = some (.iface 133 (.agg #[.int .i64 o2, p2.enc, u2.enc]))) := ⟨far6 H2 q1, far6 H2 q2⟩)
           | (refine (CL.out _).mono ?_
              rintro e w1 ⟨rfl, hb1⟩
              have H1 : Below V.heap.size V w1 := Below.trans (by first | exact Below.refl _ _ | exact (Below.refl _ _).drew) (hb1.mono (by first | exact Nat.le_refl _ | simp))
              have K1 : Hid (w1.cell? ⟨w.heap.size, 1, none⟩ = some (.iface 125 (.agg #[.int .i64 k1, .int .i64 n1, .string t1])) ∧ w1.cell? ⟨w.heap.size, 2, none⟩ = some (.iface 133 (.agg #[.int .i64 o2, p2.enc, u2.enc]))) := ⟨far6 H1 q1, far6 H1 q2⟩))
  all_goals go_wp2
  all_goals go_ret
  all_goals exact ⟨ret_int (by rw [HD.out, wrapI (by omega) (by omega)]; omega), B0.out.trans (H2.mono B0.out.size)⟩
set_option maxRecDepth 100000 in
set_option maxHeartbeats 4000000 in
theorem c_dbin_colcon (op : Int) (c1 : Int) (k2 n2 : Int) (t2 : ByteArray) (hl : DepC (PT.col c1)) (hr : DepC (PT.con k2 n2 t2)) (dl : (PT.col c1).dep ≤ 1048576) (dr : (PT.con k2 n2 t2).dep ≤ 1048576) : DepC (.bin op (PT.col c1) (PT.con k2 n2 t2)) := by
  intro w
  have HE : Hid ((((PT.bin op (PT.col c1) (PT.con k2 n2 t2)).dep : Nat) : Int) = 1 + (max (PT.col c1).dep (PT.con k2 n2 t2).dep : Nat)) := by unfold Hid; rw [show (PT.bin op (PT.col c1) (PT.con k2 n2 t2)).dep = max (PT.col c1).dep (PT.con k2 n2 t2).dep + 1 from rfl]; omega
  obtain ⟨x, hx⟩ : ∃ x, x = (PT.col c1).dep := ⟨_, rfl⟩
  obtain ⟨y, hy⟩ : ∃ y, y = (PT.con k2 n2 t2).dep := ⟨_, rfl⟩
  have CL : Hid (∀ W, Calls Tryz.prog 268 #[.agg #[.int .i64 c1]] W fun e w' => e = .returned (.int .i64 (x : Int)) ∧ Below W.heap.size W w') := by rw [hx]; exact hl
  have CR : Hid (∀ W, Calls Tryz.prog 267 #[.agg #[.int .i64 k2, .int .i64 n2, .string t2]] W fun e w' => e = .returned (.int .i64 (y : Int)) ∧ Below W.heap.size W w') := by rw [hy]; exact hr
  rw [← hx, ← hy] at HE
  rw [← hx] at dl
  rw [← hy] at dr
  clear hx hy hl hr
  have HE' : Hid (∀ d : Int, d = ((PT.bin op (PT.col c1) (PT.con k2 n2 t2)).dep : Nat) → d = 1 + (max x y : Nat)) := fun d hd => by rw [hd]; exact HE.out
  obtain ⟨V, hV⟩ : ∃ V, w.alloc (.cells #[.int .i64 op, .iface 128 (.agg #[.int .i64 c1]), .iface 125 (.agg #[.int .i64 k2, .int .i64 n2, .string t2])] 133) = V := ⟨_, rfl⟩
  have B0 : Hid (Below w.heap.size w V) := by unfold Hid; rw [← hV]; exact (Below.refl _ _).alloc (Nat.le_refl _) _
  have X0 : Box V w.heap.size 133 #[.int .i64 op, .iface 128 (.agg #[.int .i64 c1]), .iface 125 (.agg #[.int .i64 k2, .int .i64 n2, .string t2])] := by rw [← hV]; exact Box.new _ _ _
  have q1 : V.cell? ⟨w.heap.size, 1, none⟩ = some (.iface 128 (.agg #[.int .i64 c1])) := X0.cell 1
  have q2 : V.cell? ⟨w.heap.size, 2, none⟩ = some (.iface 125 (.agg #[.int .i64 k2, .int .i64 n2, .string t2])) := X0.cell 2
  have KB : Hid (V.drew.cell? ⟨w.heap.size, 1, none⟩ = some (.iface 128 (.agg #[.int .i64 c1])) ∧ V.drew.cell? ⟨w.heap.size, 2, none⟩ = some (.iface 125 (.agg #[.int .i64 k2, .int .i64 n2, .string t2]))) := ⟨q1, q2⟩
  obtain ⟨D, hD⟩ : ∃ D : Int, D = ((PT.bin op (PT.col c1) (PT.con k2 n2 t2)).dep : Nat) := ⟨_, rfl⟩
  rw [← hD]
  have HD : Hid (D = 1 + (max x y : Nat)) := HE'.out D hD
  clear HE HE' hD X0
  unfold PT.enc
  by_cases hxy : x < y
  all_goals go_enter Tryz.func270, Tryz.ntmps270
  all_goals go_wp2_with fail
  all_goals go_region_held3 (fun z => z.cell? ⟨w.heap.size, 1, none⟩ = some (.iface 128 (.agg #[.int .i64 c1])) ∧ z.cell? ⟨w.heap.size, 2, none⟩ = some (.iface 125 (.agg #[.int .i64 k2, .int .i64 n2, .string t2])))
    (first | with_reducible exact KB.out | with_reducible exact K2.out | with_reducible exact K1.out | go_keep)
    (first | (have HH := H1
              clear HH
              refine (CR.out _).mono ?_
              rintro e w2 ⟨rfl, hb2⟩
              have H2 : Below V.heap.size V w2 := H1.trans (Below.trans (by first | exact Below.refl _ _ | exact (Below.refl _ _).drew) (hb2.mono (by first | exact H1.size | simp)))
              have K2 : Hid (w2.cell? ⟨w.heap.size, 1, none⟩ = some (.iface 128 (.agg #[.int .i64 c1])) ∧ w2.cell? ⟨w.heap.size, 2, none⟩ = some (.iface 125 (.agg #[.int .i64 k2, .int .i64 n2, .string t2]))) := ⟨far6 H2 q1, far6 H2 q2⟩)
           | (refine (CL.out _).mono ?_
              rintro e w1 ⟨rfl, hb1⟩
              have H1 : Below V.heap.size V w1 := Below.trans (by first | exact Below.refl _ _ | exact (Below.refl _ _).drew) (hb1.mono (by first | exact Nat.le_refl _ | simp))
              have K1 : Hid (w1.cell? ⟨w.heap.size, 1, none⟩ = some (.iface 128 (.agg #[.int .i64 c1])) ∧ w1.cell? ⟨w.heap.size, 2, none⟩ = some (.iface 125 (.agg #[.int .i64 k2, .int .i64 n2, .string t2]))) := ⟨far6 H1 q1, far6 H1 q2⟩))
  all_goals go_wp2
  all_goals go_ret
  all_goals exact ⟨ret_int (by rw [HD.out, wrapI (by omega) (by omega)]; omega), B0.out.trans (H2.mono B0.out.size)⟩
set_option maxRecDepth 100000 in
set_option maxHeartbeats 4000000 in
theorem c_dbin_colcol (op : Int) (c1 : Int) (c2 : Int) (hl : DepC (PT.col c1)) (hr : DepC (PT.col c2)) (dl : (PT.col c1).dep ≤ 1048576) (dr : (PT.col c2).dep ≤ 1048576) : DepC (.bin op (PT.col c1) (PT.col c2)) := by
  intro w
  have HE : Hid ((((PT.bin op (PT.col c1) (PT.col c2)).dep : Nat) : Int) = 1 + (max (PT.col c1).dep (PT.col c2).dep : Nat)) := by unfold Hid; rw [show (PT.bin op (PT.col c1) (PT.col c2)).dep = max (PT.col c1).dep (PT.col c2).dep + 1 from rfl]; omega
  obtain ⟨x, hx⟩ : ∃ x, x = (PT.col c1).dep := ⟨_, rfl⟩
  obtain ⟨y, hy⟩ : ∃ y, y = (PT.col c2).dep := ⟨_, rfl⟩
  have CL : Hid (∀ W, Calls Tryz.prog 268 #[.agg #[.int .i64 c1]] W fun e w' => e = .returned (.int .i64 (x : Int)) ∧ Below W.heap.size W w') := by rw [hx]; exact hl
  have CR : Hid (∀ W, Calls Tryz.prog 268 #[.agg #[.int .i64 c2]] W fun e w' => e = .returned (.int .i64 (y : Int)) ∧ Below W.heap.size W w') := by rw [hy]; exact hr
  rw [← hx, ← hy] at HE
  rw [← hx] at dl
  rw [← hy] at dr
  clear hx hy hl hr
  have HE' : Hid (∀ d : Int, d = ((PT.bin op (PT.col c1) (PT.col c2)).dep : Nat) → d = 1 + (max x y : Nat)) := fun d hd => by rw [hd]; exact HE.out
  obtain ⟨V, hV⟩ : ∃ V, w.alloc (.cells #[.int .i64 op, .iface 128 (.agg #[.int .i64 c1]), .iface 128 (.agg #[.int .i64 c2])] 133) = V := ⟨_, rfl⟩
  have B0 : Hid (Below w.heap.size w V) := by unfold Hid; rw [← hV]; exact (Below.refl _ _).alloc (Nat.le_refl _) _
  have X0 : Box V w.heap.size 133 #[.int .i64 op, .iface 128 (.agg #[.int .i64 c1]), .iface 128 (.agg #[.int .i64 c2])] := by rw [← hV]; exact Box.new _ _ _
  have q1 : V.cell? ⟨w.heap.size, 1, none⟩ = some (.iface 128 (.agg #[.int .i64 c1])) := X0.cell 1
  have q2 : V.cell? ⟨w.heap.size, 2, none⟩ = some (.iface 128 (.agg #[.int .i64 c2])) := X0.cell 2
  have KB : Hid (V.drew.cell? ⟨w.heap.size, 1, none⟩ = some (.iface 128 (.agg #[.int .i64 c1])) ∧ V.drew.cell? ⟨w.heap.size, 2, none⟩ = some (.iface 128 (.agg #[.int .i64 c2]))) := ⟨q1, q2⟩
  obtain ⟨D, hD⟩ : ∃ D : Int, D = ((PT.bin op (PT.col c1) (PT.col c2)).dep : Nat) := ⟨_, rfl⟩
  rw [← hD]
  have HD : Hid (D = 1 + (max x y : Nat)) := HE'.out D hD
  clear HE HE' hD X0
  unfold PT.enc
  by_cases hxy : x < y
  all_goals go_enter Tryz.func270, Tryz.ntmps270
  all_goals go_wp2_with fail
  all_goals go_region_held3 (fun z => z.cell? ⟨w.heap.size, 1, none⟩ = some (.iface 128 (.agg #[.int .i64 c1])) ∧ z.cell? ⟨w.heap.size, 2, none⟩ = some (.iface 128 (.agg #[.int .i64 c2])))
    (first | with_reducible exact KB.out | with_reducible exact K2.out | with_reducible exact K1.out | go_keep)
    (first | (have HH := H1
              clear HH
              refine (CR.out _).mono ?_
              rintro e w2 ⟨rfl, hb2⟩
              have H2 : Below V.heap.size V w2 := H1.trans (Below.trans (by first | exact Below.refl _ _ | exact (Below.refl _ _).drew) (hb2.mono (by first | exact H1.size | simp)))
              have K2 : Hid (w2.cell? ⟨w.heap.size, 1, none⟩ = some (.iface 128 (.agg #[.int .i64 c1])) ∧ w2.cell? ⟨w.heap.size, 2, none⟩ = some (.iface 128 (.agg #[.int .i64 c2]))) := ⟨far6 H2 q1, far6 H2 q2⟩)
           | (refine (CL.out _).mono ?_
              rintro e w1 ⟨rfl, hb1⟩
              have H1 : Below V.heap.size V w1 := Below.trans (by first | exact Below.refl _ _ | exact (Below.refl _ _).drew) (hb1.mono (by first | exact Nat.le_refl _ | simp))
              have K1 : Hid (w1.cell? ⟨w.heap.size, 1, none⟩ = some (.iface 128 (.agg #[.int .i64 c1])) ∧ w1.cell? ⟨w.heap.size, 2, none⟩ = some (.iface 128 (.agg #[.int .i64 c2]))) := ⟨far6 H1 q1, far6 H1 q2⟩))
  all_goals go_wp2
  all_goals go_ret
  all_goals exact ⟨ret_int (by rw [HD.out, wrapI (by omega) (by omega)]; omega), B0.out.trans (H2.mono B0.out.size)⟩
set_option maxRecDepth 100000 in
set_option maxHeartbeats 4000000 in
theorem c_dbin_coluna (op : Int) (c1 : Int) (o2 : Int) (p2 : PT) (hl : DepC (PT.col c1)) (hr : DepC (PT.una o2 p2)) (dl : (PT.col c1).dep ≤ 1048576) (dr : (PT.una o2 p2).dep ≤ 1048576) : DepC (.bin op (PT.col c1) (PT.una o2 p2)) := by
  intro w
  have HE : Hid ((((PT.bin op (PT.col c1) (PT.una o2 p2)).dep : Nat) : Int) = 1 + (max (PT.col c1).dep (PT.una o2 p2).dep : Nat)) := by unfold Hid; rw [show (PT.bin op (PT.col c1) (PT.una o2 p2)).dep = max (PT.col c1).dep (PT.una o2 p2).dep + 1 from rfl]; omega
  obtain ⟨x, hx⟩ : ∃ x, x = (PT.col c1).dep := ⟨_, rfl⟩
  obtain ⟨y, hy⟩ : ∃ y, y = (PT.una o2 p2).dep := ⟨_, rfl⟩
  have CL : Hid (∀ W, Calls Tryz.prog 268 #[.agg #[.int .i64 c1]] W fun e w' => e = .returned (.int .i64 (x : Int)) ∧ Below W.heap.size W w') := by rw [hx]; exact hl
  have CR : Hid (∀ W, Calls Tryz.prog 269 #[.agg #[.int .i64 o2, p2.enc]] W fun e w' => e = .returned (.int .i64 (y : Int)) ∧ Below W.heap.size W w') := by rw [hy]; exact hr
  rw [← hx, ← hy] at HE
  rw [← hx] at dl
  rw [← hy] at dr
  clear hx hy hl hr
  have HE' : Hid (∀ d : Int, d = ((PT.bin op (PT.col c1) (PT.una o2 p2)).dep : Nat) → d = 1 + (max x y : Nat)) := fun d hd => by rw [hd]; exact HE.out
  obtain ⟨V, hV⟩ : ∃ V, w.alloc (.cells #[.int .i64 op, .iface 128 (.agg #[.int .i64 c1]), .iface 130 (.agg #[.int .i64 o2, p2.enc])] 133) = V := ⟨_, rfl⟩
  have B0 : Hid (Below w.heap.size w V) := by unfold Hid; rw [← hV]; exact (Below.refl _ _).alloc (Nat.le_refl _) _
  have X0 : Box V w.heap.size 133 #[.int .i64 op, .iface 128 (.agg #[.int .i64 c1]), .iface 130 (.agg #[.int .i64 o2, p2.enc])] := by rw [← hV]; exact Box.new _ _ _
  have q1 : V.cell? ⟨w.heap.size, 1, none⟩ = some (.iface 128 (.agg #[.int .i64 c1])) := X0.cell 1
  have q2 : V.cell? ⟨w.heap.size, 2, none⟩ = some (.iface 130 (.agg #[.int .i64 o2, p2.enc])) := X0.cell 2
  have KB : Hid (V.drew.cell? ⟨w.heap.size, 1, none⟩ = some (.iface 128 (.agg #[.int .i64 c1])) ∧ V.drew.cell? ⟨w.heap.size, 2, none⟩ = some (.iface 130 (.agg #[.int .i64 o2, p2.enc]))) := ⟨q1, q2⟩
  obtain ⟨D, hD⟩ : ∃ D : Int, D = ((PT.bin op (PT.col c1) (PT.una o2 p2)).dep : Nat) := ⟨_, rfl⟩
  rw [← hD]
  have HD : Hid (D = 1 + (max x y : Nat)) := HE'.out D hD
  clear HE HE' hD X0
  unfold PT.enc
  by_cases hxy : x < y
  all_goals go_enter Tryz.func270, Tryz.ntmps270
  all_goals go_wp2_with fail
  all_goals go_region_held3 (fun z => z.cell? ⟨w.heap.size, 1, none⟩ = some (.iface 128 (.agg #[.int .i64 c1])) ∧ z.cell? ⟨w.heap.size, 2, none⟩ = some (.iface 130 (.agg #[.int .i64 o2, p2.enc])))
    (first | with_reducible exact KB.out | with_reducible exact K2.out | with_reducible exact K1.out | go_keep)
    (first | (have HH := H1
              clear HH
              refine (CR.out _).mono ?_
              rintro e w2 ⟨rfl, hb2⟩
              have H2 : Below V.heap.size V w2 := H1.trans (Below.trans (by first | exact Below.refl _ _ | exact (Below.refl _ _).drew) (hb2.mono (by first | exact H1.size | simp)))
              have K2 : Hid (w2.cell? ⟨w.heap.size, 1, none⟩ = some (.iface 128 (.agg #[.int .i64 c1])) ∧ w2.cell? ⟨w.heap.size, 2, none⟩ = some (.iface 130 (.agg #[.int .i64 o2, p2.enc]))) := ⟨far6 H2 q1, far6 H2 q2⟩)
           | (refine (CL.out _).mono ?_
              rintro e w1 ⟨rfl, hb1⟩
              have H1 : Below V.heap.size V w1 := Below.trans (by first | exact Below.refl _ _ | exact (Below.refl _ _).drew) (hb1.mono (by first | exact Nat.le_refl _ | simp))
              have K1 : Hid (w1.cell? ⟨w.heap.size, 1, none⟩ = some (.iface 128 (.agg #[.int .i64 c1])) ∧ w1.cell? ⟨w.heap.size, 2, none⟩ = some (.iface 130 (.agg #[.int .i64 o2, p2.enc]))) := ⟨far6 H1 q1, far6 H1 q2⟩))
  all_goals go_wp2
  all_goals go_ret
  all_goals exact ⟨ret_int (by rw [HD.out, wrapI (by omega) (by omega)]; omega), B0.out.trans (H2.mono B0.out.size)⟩
set_option maxRecDepth 100000 in
set_option maxHeartbeats 4000000 in
theorem c_dbin_colbin (op : Int) (c1 : Int) (o2 : Int) (p2 u2 : PT) (hl : DepC (PT.col c1)) (hr : DepC (PT.bin o2 p2 u2)) (dl : (PT.col c1).dep ≤ 1048576) (dr : (PT.bin o2 p2 u2).dep ≤ 1048576) : DepC (.bin op (PT.col c1) (PT.bin o2 p2 u2)) := by
  intro w
  have HE : Hid ((((PT.bin op (PT.col c1) (PT.bin o2 p2 u2)).dep : Nat) : Int) = 1 + (max (PT.col c1).dep (PT.bin o2 p2 u2).dep : Nat)) := by unfold Hid; rw [show (PT.bin op (PT.col c1) (PT.bin o2 p2 u2)).dep = max (PT.col c1).dep (PT.bin o2 p2 u2).dep + 1 from rfl]; omega
  obtain ⟨x, hx⟩ : ∃ x, x = (PT.col c1).dep := ⟨_, rfl⟩
  obtain ⟨y, hy⟩ : ∃ y, y = (PT.bin o2 p2 u2).dep := ⟨_, rfl⟩
  have CL : Hid (∀ W, Calls Tryz.prog 268 #[.agg #[.int .i64 c1]] W fun e w' => e = .returned (.int .i64 (x : Int)) ∧ Below W.heap.size W w') := by rw [hx]; exact hl
  have CR : Hid (∀ W, Calls Tryz.prog 270 #[.agg #[.int .i64 o2, p2.enc, u2.enc]] W fun e w' => e = .returned (.int .i64 (y : Int)) ∧ Below W.heap.size W w') := by rw [hy]; exact hr
  rw [← hx, ← hy] at HE
  rw [← hx] at dl
  rw [← hy] at dr
  clear hx hy hl hr
  have HE' : Hid (∀ d : Int, d = ((PT.bin op (PT.col c1) (PT.bin o2 p2 u2)).dep : Nat) → d = 1 + (max x y : Nat)) := fun d hd => by rw [hd]; exact HE.out
  obtain ⟨V, hV⟩ : ∃ V, w.alloc (.cells #[.int .i64 op, .iface 128 (.agg #[.int .i64 c1]), .iface 133 (.agg #[.int .i64 o2, p2.enc, u2.enc])] 133) = V := ⟨_, rfl⟩
  have B0 : Hid (Below w.heap.size w V) := by unfold Hid; rw [← hV]; exact (Below.refl _ _).alloc (Nat.le_refl _) _
  have X0 : Box V w.heap.size 133 #[.int .i64 op, .iface 128 (.agg #[.int .i64 c1]), .iface 133 (.agg #[.int .i64 o2, p2.enc, u2.enc])] := by rw [← hV]; exact Box.new _ _ _
  have q1 : V.cell? ⟨w.heap.size, 1, none⟩ = some (.iface 128 (.agg #[.int .i64 c1])) := X0.cell 1
  have q2 : V.cell? ⟨w.heap.size, 2, none⟩ = some (.iface 133 (.agg #[.int .i64 o2, p2.enc, u2.enc])) := X0.cell 2
  have KB : Hid (V.drew.cell? ⟨w.heap.size, 1, none⟩ = some (.iface 128 (.agg #[.int .i64 c1])) ∧ V.drew.cell? ⟨w.heap.size, 2, none⟩ = some (.iface 133 (.agg #[.int .i64 o2, p2.enc, u2.enc]))) := ⟨q1, q2⟩
  obtain ⟨D, hD⟩ : ∃ D : Int, D = ((PT.bin op (PT.col c1) (PT.bin o2 p2 u2)).dep : Nat) := ⟨_, rfl⟩
  rw [← hD]
  have HD : Hid (D = 1 + (max x y : Nat)) := HE'.out D hD
  clear HE HE' hD X0
  unfold PT.enc
  by_cases hxy : x < y
  all_goals go_enter Tryz.func270, Tryz.ntmps270
  all_goals go_wp2_with fail
  all_goals go_region_held3 (fun z => z.cell? ⟨w.heap.size, 1, none⟩ = some (.iface 128 (.agg #[.int .i64 c1])) ∧ z.cell? ⟨w.heap.size, 2, none⟩ = some (.iface 133 (.agg #[.int .i64 o2, p2.enc, u2.enc])))
    (first | with_reducible exact KB.out | with_reducible exact K2.out | with_reducible exact K1.out | go_keep)
    (first | (have HH := H1
              clear HH
              refine (CR.out _).mono ?_
              rintro e w2 ⟨rfl, hb2⟩
              have H2 : Below V.heap.size V w2 := H1.trans (Below.trans (by first | exact Below.refl _ _ | exact (Below.refl _ _).drew) (hb2.mono (by first | exact H1.size | simp)))
              have K2 : Hid (w2.cell? ⟨w.heap.size, 1, none⟩ = some (.iface 128 (.agg #[.int .i64 c1])) ∧ w2.cell? ⟨w.heap.size, 2, none⟩ = some (.iface 133 (.agg #[.int .i64 o2, p2.enc, u2.enc]))) := ⟨far6 H2 q1, far6 H2 q2⟩)
           | (refine (CL.out _).mono ?_
              rintro e w1 ⟨rfl, hb1⟩
              have H1 : Below V.heap.size V w1 := Below.trans (by first | exact Below.refl _ _ | exact (Below.refl _ _).drew) (hb1.mono (by first | exact Nat.le_refl _ | simp))
              have K1 : Hid (w1.cell? ⟨w.heap.size, 1, none⟩ = some (.iface 128 (.agg #[.int .i64 c1])) ∧ w1.cell? ⟨w.heap.size, 2, none⟩ = some (.iface 133 (.agg #[.int .i64 o2, p2.enc, u2.enc]))) := ⟨far6 H1 q1, far6 H1 q2⟩))
  all_goals go_wp2
  all_goals go_ret
  all_goals exact ⟨ret_int (by rw [HD.out, wrapI (by omega) (by omega)]; omega), B0.out.trans (H2.mono B0.out.size)⟩
set_option maxRecDepth 100000 in
set_option maxHeartbeats 4000000 in
theorem c_dbin_unacon (op : Int) (o1 : Int) (p1 : PT) (k2 n2 : Int) (t2 : ByteArray) (hl : DepC (PT.una o1 p1)) (hr : DepC (PT.con k2 n2 t2)) (dl : (PT.una o1 p1).dep ≤ 1048576) (dr : (PT.con k2 n2 t2).dep ≤ 1048576) : DepC (.bin op (PT.una o1 p1) (PT.con k2 n2 t2)) := by
  intro w
  have HE : Hid ((((PT.bin op (PT.una o1 p1) (PT.con k2 n2 t2)).dep : Nat) : Int) = 1 + (max (PT.una o1 p1).dep (PT.con k2 n2 t2).dep : Nat)) := by unfold Hid; rw [show (PT.bin op (PT.una o1 p1) (PT.con k2 n2 t2)).dep = max (PT.una o1 p1).dep (PT.con k2 n2 t2).dep + 1 from rfl]; omega
  obtain ⟨x, hx⟩ : ∃ x, x = (PT.una o1 p1).dep := ⟨_, rfl⟩
  obtain ⟨y, hy⟩ : ∃ y, y = (PT.con k2 n2 t2).dep := ⟨_, rfl⟩
  have CL : Hid (∀ W, Calls Tryz.prog 269 #[.agg #[.int .i64 o1, p1.enc]] W fun e w' => e = .returned (.int .i64 (x : Int)) ∧ Below W.heap.size W w') := by rw [hx]; exact hl
  have CR : Hid (∀ W, Calls Tryz.prog 267 #[.agg #[.int .i64 k2, .int .i64 n2, .string t2]] W fun e w' => e = .returned (.int .i64 (y : Int)) ∧ Below W.heap.size W w') := by rw [hy]; exact hr
  rw [← hx, ← hy] at HE
  rw [← hx] at dl
  rw [← hy] at dr
  clear hx hy hl hr
  have HE' : Hid (∀ d : Int, d = ((PT.bin op (PT.una o1 p1) (PT.con k2 n2 t2)).dep : Nat) → d = 1 + (max x y : Nat)) := fun d hd => by rw [hd]; exact HE.out
  obtain ⟨V, hV⟩ : ∃ V, w.alloc (.cells #[.int .i64 op, .iface 130 (.agg #[.int .i64 o1, p1.enc]), .iface 125 (.agg #[.int .i64 k2, .int .i64 n2, .string t2])] 133) = V := ⟨_, rfl⟩
  have B0 : Hid (Below w.heap.size w V) := by unfold Hid; rw [← hV]; exact (Below.refl _ _).alloc (Nat.le_refl _) _
  have X0 : Box V w.heap.size 133 #[.int .i64 op, .iface 130 (.agg #[.int .i64 o1, p1.enc]), .iface 125 (.agg #[.int .i64 k2, .int .i64 n2, .string t2])] := by rw [← hV]; exact Box.new _ _ _
  have q1 : V.cell? ⟨w.heap.size, 1, none⟩ = some (.iface 130 (.agg #[.int .i64 o1, p1.enc])) := X0.cell 1
  have q2 : V.cell? ⟨w.heap.size, 2, none⟩ = some (.iface 125 (.agg #[.int .i64 k2, .int .i64 n2, .string t2])) := X0.cell 2
  have KB : Hid (V.drew.cell? ⟨w.heap.size, 1, none⟩ = some (.iface 130 (.agg #[.int .i64 o1, p1.enc])) ∧ V.drew.cell? ⟨w.heap.size, 2, none⟩ = some (.iface 125 (.agg #[.int .i64 k2, .int .i64 n2, .string t2]))) := ⟨q1, q2⟩
  obtain ⟨D, hD⟩ : ∃ D : Int, D = ((PT.bin op (PT.una o1 p1) (PT.con k2 n2 t2)).dep : Nat) := ⟨_, rfl⟩
  rw [← hD]
  have HD : Hid (D = 1 + (max x y : Nat)) := HE'.out D hD
  clear HE HE' hD X0
  unfold PT.enc
  by_cases hxy : x < y
  all_goals go_enter Tryz.func270, Tryz.ntmps270
  all_goals go_wp2_with fail
  all_goals go_region_held3 (fun z => z.cell? ⟨w.heap.size, 1, none⟩ = some (.iface 130 (.agg #[.int .i64 o1, p1.enc])) ∧ z.cell? ⟨w.heap.size, 2, none⟩ = some (.iface 125 (.agg #[.int .i64 k2, .int .i64 n2, .string t2])))
    (first | with_reducible exact KB.out | with_reducible exact K2.out | with_reducible exact K1.out | go_keep)
    (first | (have HH := H1
              clear HH
              refine (CR.out _).mono ?_
              rintro e w2 ⟨rfl, hb2⟩
              have H2 : Below V.heap.size V w2 := H1.trans (Below.trans (by first | exact Below.refl _ _ | exact (Below.refl _ _).drew) (hb2.mono (by first | exact H1.size | simp)))
              have K2 : Hid (w2.cell? ⟨w.heap.size, 1, none⟩ = some (.iface 130 (.agg #[.int .i64 o1, p1.enc])) ∧ w2.cell? ⟨w.heap.size, 2, none⟩ = some (.iface 125 (.agg #[.int .i64 k2, .int .i64 n2, .string t2]))) := ⟨far6 H2 q1, far6 H2 q2⟩)
           | (refine (CL.out _).mono ?_
              rintro e w1 ⟨rfl, hb1⟩
              have H1 : Below V.heap.size V w1 := Below.trans (by first | exact Below.refl _ _ | exact (Below.refl _ _).drew) (hb1.mono (by first | exact Nat.le_refl _ | simp))
              have K1 : Hid (w1.cell? ⟨w.heap.size, 1, none⟩ = some (.iface 130 (.agg #[.int .i64 o1, p1.enc])) ∧ w1.cell? ⟨w.heap.size, 2, none⟩ = some (.iface 125 (.agg #[.int .i64 k2, .int .i64 n2, .string t2]))) := ⟨far6 H1 q1, far6 H1 q2⟩))
  all_goals go_wp2
  all_goals go_ret
  all_goals exact ⟨ret_int (by rw [HD.out, wrapI (by omega) (by omega)]; omega), B0.out.trans (H2.mono B0.out.size)⟩
set_option maxRecDepth 100000 in
set_option maxHeartbeats 4000000 in
theorem c_dbin_unacol (op : Int) (o1 : Int) (p1 : PT) (c2 : Int) (hl : DepC (PT.una o1 p1)) (hr : DepC (PT.col c2)) (dl : (PT.una o1 p1).dep ≤ 1048576) (dr : (PT.col c2).dep ≤ 1048576) : DepC (.bin op (PT.una o1 p1) (PT.col c2)) := by
  intro w
  have HE : Hid ((((PT.bin op (PT.una o1 p1) (PT.col c2)).dep : Nat) : Int) = 1 + (max (PT.una o1 p1).dep (PT.col c2).dep : Nat)) := by unfold Hid; rw [show (PT.bin op (PT.una o1 p1) (PT.col c2)).dep = max (PT.una o1 p1).dep (PT.col c2).dep + 1 from rfl]; omega
  obtain ⟨x, hx⟩ : ∃ x, x = (PT.una o1 p1).dep := ⟨_, rfl⟩
  obtain ⟨y, hy⟩ : ∃ y, y = (PT.col c2).dep := ⟨_, rfl⟩
  have CL : Hid (∀ W, Calls Tryz.prog 269 #[.agg #[.int .i64 o1, p1.enc]] W fun e w' => e = .returned (.int .i64 (x : Int)) ∧ Below W.heap.size W w') := by rw [hx]; exact hl
  have CR : Hid (∀ W, Calls Tryz.prog 268 #[.agg #[.int .i64 c2]] W fun e w' => e = .returned (.int .i64 (y : Int)) ∧ Below W.heap.size W w') := by rw [hy]; exact hr
  rw [← hx, ← hy] at HE
  rw [← hx] at dl
  rw [← hy] at dr
  clear hx hy hl hr
  have HE' : Hid (∀ d : Int, d = ((PT.bin op (PT.una o1 p1) (PT.col c2)).dep : Nat) → d = 1 + (max x y : Nat)) := fun d hd => by rw [hd]; exact HE.out
  obtain ⟨V, hV⟩ : ∃ V, w.alloc (.cells #[.int .i64 op, .iface 130 (.agg #[.int .i64 o1, p1.enc]), .iface 128 (.agg #[.int .i64 c2])] 133) = V := ⟨_, rfl⟩
  have B0 : Hid (Below w.heap.size w V) := by unfold Hid; rw [← hV]; exact (Below.refl _ _).alloc (Nat.le_refl _) _
  have X0 : Box V w.heap.size 133 #[.int .i64 op, .iface 130 (.agg #[.int .i64 o1, p1.enc]), .iface 128 (.agg #[.int .i64 c2])] := by rw [← hV]; exact Box.new _ _ _
  have q1 : V.cell? ⟨w.heap.size, 1, none⟩ = some (.iface 130 (.agg #[.int .i64 o1, p1.enc])) := X0.cell 1
  have q2 : V.cell? ⟨w.heap.size, 2, none⟩ = some (.iface 128 (.agg #[.int .i64 c2])) := X0.cell 2
  have KB : Hid (V.drew.cell? ⟨w.heap.size, 1, none⟩ = some (.iface 130 (.agg #[.int .i64 o1, p1.enc])) ∧ V.drew.cell? ⟨w.heap.size, 2, none⟩ = some (.iface 128 (.agg #[.int .i64 c2]))) := ⟨q1, q2⟩
  obtain ⟨D, hD⟩ : ∃ D : Int, D = ((PT.bin op (PT.una o1 p1) (PT.col c2)).dep : Nat) := ⟨_, rfl⟩
  rw [← hD]
  have HD : Hid (D = 1 + (max x y : Nat)) := HE'.out D hD
  clear HE HE' hD X0
  unfold PT.enc
  by_cases hxy : x < y
  all_goals go_enter Tryz.func270, Tryz.ntmps270
  all_goals go_wp2_with fail
  all_goals go_region_held3 (fun z => z.cell? ⟨w.heap.size, 1, none⟩ = some (.iface 130 (.agg #[.int .i64 o1, p1.enc])) ∧ z.cell? ⟨w.heap.size, 2, none⟩ = some (.iface 128 (.agg #[.int .i64 c2])))
    (first | with_reducible exact KB.out | with_reducible exact K2.out | with_reducible exact K1.out | go_keep)
    (first | (have HH := H1
              clear HH
              refine (CR.out _).mono ?_
              rintro e w2 ⟨rfl, hb2⟩
              have H2 : Below V.heap.size V w2 := H1.trans (Below.trans (by first | exact Below.refl _ _ | exact (Below.refl _ _).drew) (hb2.mono (by first | exact H1.size | simp)))
              have K2 : Hid (w2.cell? ⟨w.heap.size, 1, none⟩ = some (.iface 130 (.agg #[.int .i64 o1, p1.enc])) ∧ w2.cell? ⟨w.heap.size, 2, none⟩ = some (.iface 128 (.agg #[.int .i64 c2]))) := ⟨far6 H2 q1, far6 H2 q2⟩)
           | (refine (CL.out _).mono ?_
              rintro e w1 ⟨rfl, hb1⟩
              have H1 : Below V.heap.size V w1 := Below.trans (by first | exact Below.refl _ _ | exact (Below.refl _ _).drew) (hb1.mono (by first | exact Nat.le_refl _ | simp))
              have K1 : Hid (w1.cell? ⟨w.heap.size, 1, none⟩ = some (.iface 130 (.agg #[.int .i64 o1, p1.enc])) ∧ w1.cell? ⟨w.heap.size, 2, none⟩ = some (.iface 128 (.agg #[.int .i64 c2]))) := ⟨far6 H1 q1, far6 H1 q2⟩))
  all_goals go_wp2
  all_goals go_ret
  all_goals exact ⟨ret_int (by rw [HD.out, wrapI (by omega) (by omega)]; omega), B0.out.trans (H2.mono B0.out.size)⟩
set_option maxRecDepth 100000 in
set_option maxHeartbeats 4000000 in
theorem c_dbin_unauna (op : Int) (o1 : Int) (p1 : PT) (o2 : Int) (p2 : PT) (hl : DepC (PT.una o1 p1)) (hr : DepC (PT.una o2 p2)) (dl : (PT.una o1 p1).dep ≤ 1048576) (dr : (PT.una o2 p2).dep ≤ 1048576) : DepC (.bin op (PT.una o1 p1) (PT.una o2 p2)) := by
  intro w
  have HE : Hid ((((PT.bin op (PT.una o1 p1) (PT.una o2 p2)).dep : Nat) : Int) = 1 + (max (PT.una o1 p1).dep (PT.una o2 p2).dep : Nat)) := by unfold Hid; rw [show (PT.bin op (PT.una o1 p1) (PT.una o2 p2)).dep = max (PT.una o1 p1).dep (PT.una o2 p2).dep + 1 from rfl]; omega
  obtain ⟨x, hx⟩ : ∃ x, x = (PT.una o1 p1).dep := ⟨_, rfl⟩
  obtain ⟨y, hy⟩ : ∃ y, y = (PT.una o2 p2).dep := ⟨_, rfl⟩
  have CL : Hid (∀ W, Calls Tryz.prog 269 #[.agg #[.int .i64 o1, p1.enc]] W fun e w' => e = .returned (.int .i64 (x : Int)) ∧ Below W.heap.size W w') := by rw [hx]; exact hl
  have CR : Hid (∀ W, Calls Tryz.prog 269 #[.agg #[.int .i64 o2, p2.enc]] W fun e w' => e = .returned (.int .i64 (y : Int)) ∧ Below W.heap.size W w') := by rw [hy]; exact hr
  rw [← hx, ← hy] at HE
  rw [← hx] at dl
  rw [← hy] at dr
  clear hx hy hl hr
  have HE' : Hid (∀ d : Int, d = ((PT.bin op (PT.una o1 p1) (PT.una o2 p2)).dep : Nat) → d = 1 + (max x y : Nat)) := fun d hd => by rw [hd]; exact HE.out
  obtain ⟨V, hV⟩ : ∃ V, w.alloc (.cells #[.int .i64 op, .iface 130 (.agg #[.int .i64 o1, p1.enc]), .iface 130 (.agg #[.int .i64 o2, p2.enc])] 133) = V := ⟨_, rfl⟩
  have B0 : Hid (Below w.heap.size w V) := by unfold Hid; rw [← hV]; exact (Below.refl _ _).alloc (Nat.le_refl _) _
  have X0 : Box V w.heap.size 133 #[.int .i64 op, .iface 130 (.agg #[.int .i64 o1, p1.enc]), .iface 130 (.agg #[.int .i64 o2, p2.enc])] := by rw [← hV]; exact Box.new _ _ _
  have q1 : V.cell? ⟨w.heap.size, 1, none⟩ = some (.iface 130 (.agg #[.int .i64 o1, p1.enc])) := X0.cell 1
  have q2 : V.cell? ⟨w.heap.size, 2, none⟩ = some (.iface 130 (.agg #[.int .i64 o2, p2.enc])) := X0.cell 2
  have KB : Hid (V.drew.cell? ⟨w.heap.size, 1, none⟩ = some (.iface 130 (.agg #[.int .i64 o1, p1.enc])) ∧ V.drew.cell? ⟨w.heap.size, 2, none⟩ = some (.iface 130 (.agg #[.int .i64 o2, p2.enc]))) := ⟨q1, q2⟩
  obtain ⟨D, hD⟩ : ∃ D : Int, D = ((PT.bin op (PT.una o1 p1) (PT.una o2 p2)).dep : Nat) := ⟨_, rfl⟩
  rw [← hD]
  have HD : Hid (D = 1 + (max x y : Nat)) := HE'.out D hD
  clear HE HE' hD X0
  unfold PT.enc
  by_cases hxy : x < y
  all_goals go_enter Tryz.func270, Tryz.ntmps270
  all_goals go_wp2_with fail
  all_goals go_region_held3 (fun z => z.cell? ⟨w.heap.size, 1, none⟩ = some (.iface 130 (.agg #[.int .i64 o1, p1.enc])) ∧ z.cell? ⟨w.heap.size, 2, none⟩ = some (.iface 130 (.agg #[.int .i64 o2, p2.enc])))
    (first | with_reducible exact KB.out | with_reducible exact K2.out | with_reducible exact K1.out | go_keep)
    (first | (have HH := H1
              clear HH
              refine (CR.out _).mono ?_
              rintro e w2 ⟨rfl, hb2⟩
              have H2 : Below V.heap.size V w2 := H1.trans (Below.trans (by first | exact Below.refl _ _ | exact (Below.refl _ _).drew) (hb2.mono (by first | exact H1.size | simp)))
              have K2 : Hid (w2.cell? ⟨w.heap.size, 1, none⟩ = some (.iface 130 (.agg #[.int .i64 o1, p1.enc])) ∧ w2.cell? ⟨w.heap.size, 2, none⟩ = some (.iface 130 (.agg #[.int .i64 o2, p2.enc]))) := ⟨far6 H2 q1, far6 H2 q2⟩)
           | (refine (CL.out _).mono ?_
              rintro e w1 ⟨rfl, hb1⟩
              have H1 : Below V.heap.size V w1 := Below.trans (by first | exact Below.refl _ _ | exact (Below.refl _ _).drew) (hb1.mono (by first | exact Nat.le_refl _ | simp))
              have K1 : Hid (w1.cell? ⟨w.heap.size, 1, none⟩ = some (.iface 130 (.agg #[.int .i64 o1, p1.enc])) ∧ w1.cell? ⟨w.heap.size, 2, none⟩ = some (.iface 130 (.agg #[.int .i64 o2, p2.enc]))) := ⟨far6 H1 q1, far6 H1 q2⟩))
  all_goals go_wp2
  all_goals go_ret
  all_goals exact ⟨ret_int (by rw [HD.out, wrapI (by omega) (by omega)]; omega), B0.out.trans (H2.mono B0.out.size)⟩
set_option maxRecDepth 100000 in
set_option maxHeartbeats 4000000 in
theorem c_dbin_unabin (op : Int) (o1 : Int) (p1 : PT) (o2 : Int) (p2 u2 : PT) (hl : DepC (PT.una o1 p1)) (hr : DepC (PT.bin o2 p2 u2)) (dl : (PT.una o1 p1).dep ≤ 1048576) (dr : (PT.bin o2 p2 u2).dep ≤ 1048576) : DepC (.bin op (PT.una o1 p1) (PT.bin o2 p2 u2)) := by
  intro w
  have HE : Hid ((((PT.bin op (PT.una o1 p1) (PT.bin o2 p2 u2)).dep : Nat) : Int) = 1 + (max (PT.una o1 p1).dep (PT.bin o2 p2 u2).dep : Nat)) := by unfold Hid; rw [show (PT.bin op (PT.una o1 p1) (PT.bin o2 p2 u2)).dep = max (PT.una o1 p1).dep (PT.bin o2 p2 u2).dep + 1 from rfl]; omega
  obtain ⟨x, hx⟩ : ∃ x, x = (PT.una o1 p1).dep := ⟨_, rfl⟩
  obtain ⟨y, hy⟩ : ∃ y, y = (PT.bin o2 p2 u2).dep := ⟨_, rfl⟩
  have CL : Hid (∀ W, Calls Tryz.prog 269 #[.agg #[.int .i64 o1, p1.enc]] W fun e w' => e = .returned (.int .i64 (x : Int)) ∧ Below W.heap.size W w') := by rw [hx]; exact hl
  have CR : Hid (∀ W, Calls Tryz.prog 270 #[.agg #[.int .i64 o2, p2.enc, u2.enc]] W fun e w' => e = .returned (.int .i64 (y : Int)) ∧ Below W.heap.size W w') := by rw [hy]; exact hr
  rw [← hx, ← hy] at HE
  rw [← hx] at dl
  rw [← hy] at dr
  clear hx hy hl hr
  have HE' : Hid (∀ d : Int, d = ((PT.bin op (PT.una o1 p1) (PT.bin o2 p2 u2)).dep : Nat) → d = 1 + (max x y : Nat)) := fun d hd => by rw [hd]; exact HE.out
  obtain ⟨V, hV⟩ : ∃ V, w.alloc (.cells #[.int .i64 op, .iface 130 (.agg #[.int .i64 o1, p1.enc]), .iface 133 (.agg #[.int .i64 o2, p2.enc, u2.enc])] 133) = V := ⟨_, rfl⟩
  have B0 : Hid (Below w.heap.size w V) := by unfold Hid; rw [← hV]; exact (Below.refl _ _).alloc (Nat.le_refl _) _
  have X0 : Box V w.heap.size 133 #[.int .i64 op, .iface 130 (.agg #[.int .i64 o1, p1.enc]), .iface 133 (.agg #[.int .i64 o2, p2.enc, u2.enc])] := by rw [← hV]; exact Box.new _ _ _
  have q1 : V.cell? ⟨w.heap.size, 1, none⟩ = some (.iface 130 (.agg #[.int .i64 o1, p1.enc])) := X0.cell 1
  have q2 : V.cell? ⟨w.heap.size, 2, none⟩ = some (.iface 133 (.agg #[.int .i64 o2, p2.enc, u2.enc])) := X0.cell 2
  have KB : Hid (V.drew.cell? ⟨w.heap.size, 1, none⟩ = some (.iface 130 (.agg #[.int .i64 o1, p1.enc])) ∧ V.drew.cell? ⟨w.heap.size, 2, none⟩ = some (.iface 133 (.agg #[.int .i64 o2, p2.enc, u2.enc]))) := ⟨q1, q2⟩
  obtain ⟨D, hD⟩ : ∃ D : Int, D = ((PT.bin op (PT.una o1 p1) (PT.bin o2 p2 u2)).dep : Nat) := ⟨_, rfl⟩
  rw [← hD]
  have HD : Hid (D = 1 + (max x y : Nat)) := HE'.out D hD
  clear HE HE' hD X0
  unfold PT.enc
  by_cases hxy : x < y
  all_goals go_enter Tryz.func270, Tryz.ntmps270
  all_goals go_wp2_with fail
  all_goals go_region_held3 (fun z => z.cell? ⟨w.heap.size, 1, none⟩ = some (.iface 130 (.agg #[.int .i64 o1, p1.enc])) ∧ z.cell? ⟨w.heap.size, 2, none⟩ = some (.iface 133 (.agg #[.int .i64 o2, p2.enc, u2.enc])))
    (first | with_reducible exact KB.out | with_reducible exact K2.out | with_reducible exact K1.out | go_keep)
    (first | (have HH := H1
              clear HH
              refine (CR.out _).mono ?_
              rintro e w2 ⟨rfl, hb2⟩
              have H2 : Below V.heap.size V w2 := H1.trans (Below.trans (by first | exact Below.refl _ _ | exact (Below.refl _ _).drew) (hb2.mono (by first | exact H1.size | simp)))
              have K2 : Hid (w2.cell? ⟨w.heap.size, 1, none⟩ = some (.iface 130 (.agg #[.int .i64 o1, p1.enc])) ∧ w2.cell? ⟨w.heap.size, 2, none⟩ = some (.iface 133 (.agg #[.int .i64 o2, p2.enc, u2.enc]))) := ⟨far6 H2 q1, far6 H2 q2⟩)
           | (refine (CL.out _).mono ?_
              rintro e w1 ⟨rfl, hb1⟩
              have H1 : Below V.heap.size V w1 := Below.trans (by first | exact Below.refl _ _ | exact (Below.refl _ _).drew) (hb1.mono (by first | exact Nat.le_refl _ | simp))
              have K1 : Hid (w1.cell? ⟨w.heap.size, 1, none⟩ = some (.iface 130 (.agg #[.int .i64 o1, p1.enc])) ∧ w1.cell? ⟨w.heap.size, 2, none⟩ = some (.iface 133 (.agg #[.int .i64 o2, p2.enc, u2.enc]))) := ⟨far6 H1 q1, far6 H1 q2⟩))
  all_goals go_wp2
  all_goals go_ret
  all_goals exact ⟨ret_int (by rw [HD.out, wrapI (by omega) (by omega)]; omega), B0.out.trans (H2.mono B0.out.size)⟩
set_option maxRecDepth 100000 in
set_option maxHeartbeats 4000000 in
theorem c_dbin_bincon (op : Int) (o1 : Int) (p1 u1 : PT) (k2 n2 : Int) (t2 : ByteArray) (hl : DepC (PT.bin o1 p1 u1)) (hr : DepC (PT.con k2 n2 t2)) (dl : (PT.bin o1 p1 u1).dep ≤ 1048576) (dr : (PT.con k2 n2 t2).dep ≤ 1048576) : DepC (.bin op (PT.bin o1 p1 u1) (PT.con k2 n2 t2)) := by
  intro w
  have HE : Hid ((((PT.bin op (PT.bin o1 p1 u1) (PT.con k2 n2 t2)).dep : Nat) : Int) = 1 + (max (PT.bin o1 p1 u1).dep (PT.con k2 n2 t2).dep : Nat)) := by unfold Hid; rw [show (PT.bin op (PT.bin o1 p1 u1) (PT.con k2 n2 t2)).dep = max (PT.bin o1 p1 u1).dep (PT.con k2 n2 t2).dep + 1 from rfl]; omega
  obtain ⟨x, hx⟩ : ∃ x, x = (PT.bin o1 p1 u1).dep := ⟨_, rfl⟩
  obtain ⟨y, hy⟩ : ∃ y, y = (PT.con k2 n2 t2).dep := ⟨_, rfl⟩
  have CL : Hid (∀ W, Calls Tryz.prog 270 #[.agg #[.int .i64 o1, p1.enc, u1.enc]] W fun e w' => e = .returned (.int .i64 (x : Int)) ∧ Below W.heap.size W w') := by rw [hx]; exact hl
  have CR : Hid (∀ W, Calls Tryz.prog 267 #[.agg #[.int .i64 k2, .int .i64 n2, .string t2]] W fun e w' => e = .returned (.int .i64 (y : Int)) ∧ Below W.heap.size W w') := by rw [hy]; exact hr
  rw [← hx, ← hy] at HE
  rw [← hx] at dl
  rw [← hy] at dr
  clear hx hy hl hr
  have HE' : Hid (∀ d : Int, d = ((PT.bin op (PT.bin o1 p1 u1) (PT.con k2 n2 t2)).dep : Nat) → d = 1 + (max x y : Nat)) := fun d hd => by rw [hd]; exact HE.out
  obtain ⟨V, hV⟩ : ∃ V, w.alloc (.cells #[.int .i64 op, .iface 133 (.agg #[.int .i64 o1, p1.enc, u1.enc]), .iface 125 (.agg #[.int .i64 k2, .int .i64 n2, .string t2])] 133) = V := ⟨_, rfl⟩
  have B0 : Hid (Below w.heap.size w V) := by unfold Hid; rw [← hV]; exact (Below.refl _ _).alloc (Nat.le_refl _) _
  have X0 : Box V w.heap.size 133 #[.int .i64 op, .iface 133 (.agg #[.int .i64 o1, p1.enc, u1.enc]), .iface 125 (.agg #[.int .i64 k2, .int .i64 n2, .string t2])] := by rw [← hV]; exact Box.new _ _ _
  have q1 : V.cell? ⟨w.heap.size, 1, none⟩ = some (.iface 133 (.agg #[.int .i64 o1, p1.enc, u1.enc])) := X0.cell 1
  have q2 : V.cell? ⟨w.heap.size, 2, none⟩ = some (.iface 125 (.agg #[.int .i64 k2, .int .i64 n2, .string t2])) := X0.cell 2
  have KB : Hid (V.drew.cell? ⟨w.heap.size, 1, none⟩ = some (.iface 133 (.agg #[.int .i64 o1, p1.enc, u1.enc])) ∧ V.drew.cell? ⟨w.heap.size, 2, none⟩ = some (.iface 125 (.agg #[.int .i64 k2, .int .i64 n2, .string t2]))) := ⟨q1, q2⟩
  obtain ⟨D, hD⟩ : ∃ D : Int, D = ((PT.bin op (PT.bin o1 p1 u1) (PT.con k2 n2 t2)).dep : Nat) := ⟨_, rfl⟩
  rw [← hD]
  have HD : Hid (D = 1 + (max x y : Nat)) := HE'.out D hD
  clear HE HE' hD X0
  unfold PT.enc
  by_cases hxy : x < y
  all_goals go_enter Tryz.func270, Tryz.ntmps270
  all_goals go_wp2_with fail
  all_goals go_region_held3 (fun z => z.cell? ⟨w.heap.size, 1, none⟩ = some (.iface 133 (.agg #[.int .i64 o1, p1.enc, u1.enc])) ∧ z.cell? ⟨w.heap.size, 2, none⟩ = some (.iface 125 (.agg #[.int .i64 k2, .int .i64 n2, .string t2])))
    (first | with_reducible exact KB.out | with_reducible exact K2.out | with_reducible exact K1.out | go_keep)
    (first | (have HH := H1
              clear HH
              refine (CR.out _).mono ?_
              rintro e w2 ⟨rfl, hb2⟩
              have H2 : Below V.heap.size V w2 := H1.trans (Below.trans (by first | exact Below.refl _ _ | exact (Below.refl _ _).drew) (hb2.mono (by first | exact H1.size | simp)))
              have K2 : Hid (w2.cell? ⟨w.heap.size, 1, none⟩ = some (.iface 133 (.agg #[.int .i64 o1, p1.enc, u1.enc])) ∧ w2.cell? ⟨w.heap.size, 2, none⟩ = some (.iface 125 (.agg #[.int .i64 k2, .int .i64 n2, .string t2]))) := ⟨far6 H2 q1, far6 H2 q2⟩)
           | (refine (CL.out _).mono ?_
              rintro e w1 ⟨rfl, hb1⟩
              have H1 : Below V.heap.size V w1 := Below.trans (by first | exact Below.refl _ _ | exact (Below.refl _ _).drew) (hb1.mono (by first | exact Nat.le_refl _ | simp))
              have K1 : Hid (w1.cell? ⟨w.heap.size, 1, none⟩ = some (.iface 133 (.agg #[.int .i64 o1, p1.enc, u1.enc])) ∧ w1.cell? ⟨w.heap.size, 2, none⟩ = some (.iface 125 (.agg #[.int .i64 k2, .int .i64 n2, .string t2]))) := ⟨far6 H1 q1, far6 H1 q2⟩))
  all_goals go_wp2
  all_goals go_ret
  all_goals exact ⟨ret_int (by rw [HD.out, wrapI (by omega) (by omega)]; omega), B0.out.trans (H2.mono B0.out.size)⟩
set_option maxRecDepth 100000 in
set_option maxHeartbeats 4000000 in
theorem c_dbin_bincol (op : Int) (o1 : Int) (p1 u1 : PT) (c2 : Int) (hl : DepC (PT.bin o1 p1 u1)) (hr : DepC (PT.col c2)) (dl : (PT.bin o1 p1 u1).dep ≤ 1048576) (dr : (PT.col c2).dep ≤ 1048576) : DepC (.bin op (PT.bin o1 p1 u1) (PT.col c2)) := by
  intro w
  have HE : Hid ((((PT.bin op (PT.bin o1 p1 u1) (PT.col c2)).dep : Nat) : Int) = 1 + (max (PT.bin o1 p1 u1).dep (PT.col c2).dep : Nat)) := by unfold Hid; rw [show (PT.bin op (PT.bin o1 p1 u1) (PT.col c2)).dep = max (PT.bin o1 p1 u1).dep (PT.col c2).dep + 1 from rfl]; omega
  obtain ⟨x, hx⟩ : ∃ x, x = (PT.bin o1 p1 u1).dep := ⟨_, rfl⟩
  obtain ⟨y, hy⟩ : ∃ y, y = (PT.col c2).dep := ⟨_, rfl⟩
  have CL : Hid (∀ W, Calls Tryz.prog 270 #[.agg #[.int .i64 o1, p1.enc, u1.enc]] W fun e w' => e = .returned (.int .i64 (x : Int)) ∧ Below W.heap.size W w') := by rw [hx]; exact hl
  have CR : Hid (∀ W, Calls Tryz.prog 268 #[.agg #[.int .i64 c2]] W fun e w' => e = .returned (.int .i64 (y : Int)) ∧ Below W.heap.size W w') := by rw [hy]; exact hr
  rw [← hx, ← hy] at HE
  rw [← hx] at dl
  rw [← hy] at dr
  clear hx hy hl hr
  have HE' : Hid (∀ d : Int, d = ((PT.bin op (PT.bin o1 p1 u1) (PT.col c2)).dep : Nat) → d = 1 + (max x y : Nat)) := fun d hd => by rw [hd]; exact HE.out
  obtain ⟨V, hV⟩ : ∃ V, w.alloc (.cells #[.int .i64 op, .iface 133 (.agg #[.int .i64 o1, p1.enc, u1.enc]), .iface 128 (.agg #[.int .i64 c2])] 133) = V := ⟨_, rfl⟩
  have B0 : Hid (Below w.heap.size w V) := by unfold Hid; rw [← hV]; exact (Below.refl _ _).alloc (Nat.le_refl _) _
  have X0 : Box V w.heap.size 133 #[.int .i64 op, .iface 133 (.agg #[.int .i64 o1, p1.enc, u1.enc]), .iface 128 (.agg #[.int .i64 c2])] := by rw [← hV]; exact Box.new _ _ _
  have q1 : V.cell? ⟨w.heap.size, 1, none⟩ = some (.iface 133 (.agg #[.int .i64 o1, p1.enc, u1.enc])) := X0.cell 1
  have q2 : V.cell? ⟨w.heap.size, 2, none⟩ = some (.iface 128 (.agg #[.int .i64 c2])) := X0.cell 2
  have KB : Hid (V.drew.cell? ⟨w.heap.size, 1, none⟩ = some (.iface 133 (.agg #[.int .i64 o1, p1.enc, u1.enc])) ∧ V.drew.cell? ⟨w.heap.size, 2, none⟩ = some (.iface 128 (.agg #[.int .i64 c2]))) := ⟨q1, q2⟩
  obtain ⟨D, hD⟩ : ∃ D : Int, D = ((PT.bin op (PT.bin o1 p1 u1) (PT.col c2)).dep : Nat) := ⟨_, rfl⟩
  rw [← hD]
  have HD : Hid (D = 1 + (max x y : Nat)) := HE'.out D hD
  clear HE HE' hD X0
  unfold PT.enc
  by_cases hxy : x < y
  all_goals go_enter Tryz.func270, Tryz.ntmps270
  all_goals go_wp2_with fail
  all_goals go_region_held3 (fun z => z.cell? ⟨w.heap.size, 1, none⟩ = some (.iface 133 (.agg #[.int .i64 o1, p1.enc, u1.enc])) ∧ z.cell? ⟨w.heap.size, 2, none⟩ = some (.iface 128 (.agg #[.int .i64 c2])))
    (first | with_reducible exact KB.out | with_reducible exact K2.out | with_reducible exact K1.out | go_keep)
    (first | (have HH := H1
              clear HH
              refine (CR.out _).mono ?_
              rintro e w2 ⟨rfl, hb2⟩
              have H2 : Below V.heap.size V w2 := H1.trans (Below.trans (by first | exact Below.refl _ _ | exact (Below.refl _ _).drew) (hb2.mono (by first | exact H1.size | simp)))
              have K2 : Hid (w2.cell? ⟨w.heap.size, 1, none⟩ = some (.iface 133 (.agg #[.int .i64 o1, p1.enc, u1.enc])) ∧ w2.cell? ⟨w.heap.size, 2, none⟩ = some (.iface 128 (.agg #[.int .i64 c2]))) := ⟨far6 H2 q1, far6 H2 q2⟩)
           | (refine (CL.out _).mono ?_
              rintro e w1 ⟨rfl, hb1⟩
              have H1 : Below V.heap.size V w1 := Below.trans (by first | exact Below.refl _ _ | exact (Below.refl _ _).drew) (hb1.mono (by first | exact Nat.le_refl _ | simp))
              have K1 : Hid (w1.cell? ⟨w.heap.size, 1, none⟩ = some (.iface 133 (.agg #[.int .i64 o1, p1.enc, u1.enc])) ∧ w1.cell? ⟨w.heap.size, 2, none⟩ = some (.iface 128 (.agg #[.int .i64 c2]))) := ⟨far6 H1 q1, far6 H1 q2⟩))
  all_goals go_wp2
  all_goals go_ret
  all_goals exact ⟨ret_int (by rw [HD.out, wrapI (by omega) (by omega)]; omega), B0.out.trans (H2.mono B0.out.size)⟩
set_option maxRecDepth 100000 in
set_option maxHeartbeats 4000000 in
theorem c_dbin_binuna (op : Int) (o1 : Int) (p1 u1 : PT) (o2 : Int) (p2 : PT) (hl : DepC (PT.bin o1 p1 u1)) (hr : DepC (PT.una o2 p2)) (dl : (PT.bin o1 p1 u1).dep ≤ 1048576) (dr : (PT.una o2 p2).dep ≤ 1048576) : DepC (.bin op (PT.bin o1 p1 u1) (PT.una o2 p2)) := by
  intro w
  have HE : Hid ((((PT.bin op (PT.bin o1 p1 u1) (PT.una o2 p2)).dep : Nat) : Int) = 1 + (max (PT.bin o1 p1 u1).dep (PT.una o2 p2).dep : Nat)) := by unfold Hid; rw [show (PT.bin op (PT.bin o1 p1 u1) (PT.una o2 p2)).dep = max (PT.bin o1 p1 u1).dep (PT.una o2 p2).dep + 1 from rfl]; omega
  obtain ⟨x, hx⟩ : ∃ x, x = (PT.bin o1 p1 u1).dep := ⟨_, rfl⟩
  obtain ⟨y, hy⟩ : ∃ y, y = (PT.una o2 p2).dep := ⟨_, rfl⟩
  have CL : Hid (∀ W, Calls Tryz.prog 270 #[.agg #[.int .i64 o1, p1.enc, u1.enc]] W fun e w' => e = .returned (.int .i64 (x : Int)) ∧ Below W.heap.size W w') := by rw [hx]; exact hl
  have CR : Hid (∀ W, Calls Tryz.prog 269 #[.agg #[.int .i64 o2, p2.enc]] W fun e w' => e = .returned (.int .i64 (y : Int)) ∧ Below W.heap.size W w') := by rw [hy]; exact hr
  rw [← hx, ← hy] at HE
  rw [← hx] at dl
  rw [← hy] at dr
  clear hx hy hl hr
  have HE' : Hid (∀ d : Int, d = ((PT.bin op (PT.bin o1 p1 u1) (PT.una o2 p2)).dep : Nat) → d = 1 + (max x y : Nat)) := fun d hd => by rw [hd]; exact HE.out
  obtain ⟨V, hV⟩ : ∃ V, w.alloc (.cells #[.int .i64 op, .iface 133 (.agg #[.int .i64 o1, p1.enc, u1.enc]), .iface 130 (.agg #[.int .i64 o2, p2.enc])] 133) = V := ⟨_, rfl⟩
  have B0 : Hid (Below w.heap.size w V) := by unfold Hid; rw [← hV]; exact (Below.refl _ _).alloc (Nat.le_refl _) _
  have X0 : Box V w.heap.size 133 #[.int .i64 op, .iface 133 (.agg #[.int .i64 o1, p1.enc, u1.enc]), .iface 130 (.agg #[.int .i64 o2, p2.enc])] := by rw [← hV]; exact Box.new _ _ _
  have q1 : V.cell? ⟨w.heap.size, 1, none⟩ = some (.iface 133 (.agg #[.int .i64 o1, p1.enc, u1.enc])) := X0.cell 1
  have q2 : V.cell? ⟨w.heap.size, 2, none⟩ = some (.iface 130 (.agg #[.int .i64 o2, p2.enc])) := X0.cell 2
  have KB : Hid (V.drew.cell? ⟨w.heap.size, 1, none⟩ = some (.iface 133 (.agg #[.int .i64 o1, p1.enc, u1.enc])) ∧ V.drew.cell? ⟨w.heap.size, 2, none⟩ = some (.iface 130 (.agg #[.int .i64 o2, p2.enc]))) := ⟨q1, q2⟩
  obtain ⟨D, hD⟩ : ∃ D : Int, D = ((PT.bin op (PT.bin o1 p1 u1) (PT.una o2 p2)).dep : Nat) := ⟨_, rfl⟩
  rw [← hD]
  have HD : Hid (D = 1 + (max x y : Nat)) := HE'.out D hD
  clear HE HE' hD X0
  unfold PT.enc
  by_cases hxy : x < y
  all_goals go_enter Tryz.func270, Tryz.ntmps270
  all_goals go_wp2_with fail
  all_goals go_region_held3 (fun z => z.cell? ⟨w.heap.size, 1, none⟩ = some (.iface 133 (.agg #[.int .i64 o1, p1.enc, u1.enc])) ∧ z.cell? ⟨w.heap.size, 2, none⟩ = some (.iface 130 (.agg #[.int .i64 o2, p2.enc])))
    (first | with_reducible exact KB.out | with_reducible exact K2.out | with_reducible exact K1.out | go_keep)
    (first | (have HH := H1
              clear HH
              refine (CR.out _).mono ?_
              rintro e w2 ⟨rfl, hb2⟩
              have H2 : Below V.heap.size V w2 := H1.trans (Below.trans (by first | exact Below.refl _ _ | exact (Below.refl _ _).drew) (hb2.mono (by first | exact H1.size | simp)))
              have K2 : Hid (w2.cell? ⟨w.heap.size, 1, none⟩ = some (.iface 133 (.agg #[.int .i64 o1, p1.enc, u1.enc])) ∧ w2.cell? ⟨w.heap.size, 2, none⟩ = some (.iface 130 (.agg #[.int .i64 o2, p2.enc]))) := ⟨far6 H2 q1, far6 H2 q2⟩)
           | (refine (CL.out _).mono ?_
              rintro e w1 ⟨rfl, hb1⟩
              have H1 : Below V.heap.size V w1 := Below.trans (by first | exact Below.refl _ _ | exact (Below.refl _ _).drew) (hb1.mono (by first | exact Nat.le_refl _ | simp))
              have K1 : Hid (w1.cell? ⟨w.heap.size, 1, none⟩ = some (.iface 133 (.agg #[.int .i64 o1, p1.enc, u1.enc])) ∧ w1.cell? ⟨w.heap.size, 2, none⟩ = some (.iface 130 (.agg #[.int .i64 o2, p2.enc]))) := ⟨far6 H1 q1, far6 H1 q2⟩))
  all_goals go_wp2
  all_goals go_ret
  all_goals exact ⟨ret_int (by rw [HD.out, wrapI (by omega) (by omega)]; omega), B0.out.trans (H2.mono B0.out.size)⟩
set_option maxRecDepth 100000 in
set_option maxHeartbeats 4000000 in
theorem c_dbin_binbin (op : Int) (o1 : Int) (p1 u1 : PT) (o2 : Int) (p2 u2 : PT) (hl : DepC (PT.bin o1 p1 u1)) (hr : DepC (PT.bin o2 p2 u2)) (dl : (PT.bin o1 p1 u1).dep ≤ 1048576) (dr : (PT.bin o2 p2 u2).dep ≤ 1048576) : DepC (.bin op (PT.bin o1 p1 u1) (PT.bin o2 p2 u2)) := by
  intro w
  have HE : Hid ((((PT.bin op (PT.bin o1 p1 u1) (PT.bin o2 p2 u2)).dep : Nat) : Int) = 1 + (max (PT.bin o1 p1 u1).dep (PT.bin o2 p2 u2).dep : Nat)) := by unfold Hid; rw [show (PT.bin op (PT.bin o1 p1 u1) (PT.bin o2 p2 u2)).dep = max (PT.bin o1 p1 u1).dep (PT.bin o2 p2 u2).dep + 1 from rfl]; omega
  obtain ⟨x, hx⟩ : ∃ x, x = (PT.bin o1 p1 u1).dep := ⟨_, rfl⟩
  obtain ⟨y, hy⟩ : ∃ y, y = (PT.bin o2 p2 u2).dep := ⟨_, rfl⟩
  have CL : Hid (∀ W, Calls Tryz.prog 270 #[.agg #[.int .i64 o1, p1.enc, u1.enc]] W fun e w' => e = .returned (.int .i64 (x : Int)) ∧ Below W.heap.size W w') := by rw [hx]; exact hl
  have CR : Hid (∀ W, Calls Tryz.prog 270 #[.agg #[.int .i64 o2, p2.enc, u2.enc]] W fun e w' => e = .returned (.int .i64 (y : Int)) ∧ Below W.heap.size W w') := by rw [hy]; exact hr
  rw [← hx, ← hy] at HE
  rw [← hx] at dl
  rw [← hy] at dr
  clear hx hy hl hr
  have HE' : Hid (∀ d : Int, d = ((PT.bin op (PT.bin o1 p1 u1) (PT.bin o2 p2 u2)).dep : Nat) → d = 1 + (max x y : Nat)) := fun d hd => by rw [hd]; exact HE.out
  obtain ⟨V, hV⟩ : ∃ V, w.alloc (.cells #[.int .i64 op, .iface 133 (.agg #[.int .i64 o1, p1.enc, u1.enc]), .iface 133 (.agg #[.int .i64 o2, p2.enc, u2.enc])] 133) = V := ⟨_, rfl⟩
  have B0 : Hid (Below w.heap.size w V) := by unfold Hid; rw [← hV]; exact (Below.refl _ _).alloc (Nat.le_refl _) _
  have X0 : Box V w.heap.size 133 #[.int .i64 op, .iface 133 (.agg #[.int .i64 o1, p1.enc, u1.enc]), .iface 133 (.agg #[.int .i64 o2, p2.enc, u2.enc])] := by rw [← hV]; exact Box.new _ _ _
  have q1 : V.cell? ⟨w.heap.size, 1, none⟩ = some (.iface 133 (.agg #[.int .i64 o1, p1.enc, u1.enc])) := X0.cell 1
  have q2 : V.cell? ⟨w.heap.size, 2, none⟩ = some (.iface 133 (.agg #[.int .i64 o2, p2.enc, u2.enc])) := X0.cell 2
  have KB : Hid (V.drew.cell? ⟨w.heap.size, 1, none⟩ = some (.iface 133 (.agg #[.int .i64 o1, p1.enc, u1.enc])) ∧ V.drew.cell? ⟨w.heap.size, 2, none⟩ = some (.iface 133 (.agg #[.int .i64 o2, p2.enc, u2.enc]))) := ⟨q1, q2⟩
  obtain ⟨D, hD⟩ : ∃ D : Int, D = ((PT.bin op (PT.bin o1 p1 u1) (PT.bin o2 p2 u2)).dep : Nat) := ⟨_, rfl⟩
  rw [← hD]
  have HD : Hid (D = 1 + (max x y : Nat)) := HE'.out D hD
  clear HE HE' hD X0
  unfold PT.enc
  by_cases hxy : x < y
  all_goals go_enter Tryz.func270, Tryz.ntmps270
  all_goals go_wp2_with fail
  all_goals go_region_held3 (fun z => z.cell? ⟨w.heap.size, 1, none⟩ = some (.iface 133 (.agg #[.int .i64 o1, p1.enc, u1.enc])) ∧ z.cell? ⟨w.heap.size, 2, none⟩ = some (.iface 133 (.agg #[.int .i64 o2, p2.enc, u2.enc])))
    (first | with_reducible exact KB.out | with_reducible exact K2.out | with_reducible exact K1.out | go_keep)
    (first | (have HH := H1
              clear HH
              refine (CR.out _).mono ?_
              rintro e w2 ⟨rfl, hb2⟩
              have H2 : Below V.heap.size V w2 := H1.trans (Below.trans (by first | exact Below.refl _ _ | exact (Below.refl _ _).drew) (hb2.mono (by first | exact H1.size | simp)))
              have K2 : Hid (w2.cell? ⟨w.heap.size, 1, none⟩ = some (.iface 133 (.agg #[.int .i64 o1, p1.enc, u1.enc])) ∧ w2.cell? ⟨w.heap.size, 2, none⟩ = some (.iface 133 (.agg #[.int .i64 o2, p2.enc, u2.enc]))) := ⟨far6 H2 q1, far6 H2 q2⟩)
           | (refine (CL.out _).mono ?_
              rintro e w1 ⟨rfl, hb1⟩
              have H1 : Below V.heap.size V w1 := Below.trans (by first | exact Below.refl _ _ | exact (Below.refl _ _).drew) (hb1.mono (by first | exact Nat.le_refl _ | simp))
              have K1 : Hid (w1.cell? ⟨w.heap.size, 1, none⟩ = some (.iface 133 (.agg #[.int .i64 o1, p1.enc, u1.enc])) ∧ w1.cell? ⟨w.heap.size, 2, none⟩ = some (.iface 133 (.agg #[.int .i64 o2, p2.enc, u2.enc]))) := ⟨far6 H1 q1, far6 H1 q2⟩))
  all_goals go_wp2
  all_goals go_ret
  all_goals exact ⟨ret_int (by rw [HD.out, wrapI (by omega) (by omega)]; omega), B0.out.trans (H2.mono B0.out.size)⟩

end Go.Proofs.YtbpfpjmjmkpjoaaGreatDoor
