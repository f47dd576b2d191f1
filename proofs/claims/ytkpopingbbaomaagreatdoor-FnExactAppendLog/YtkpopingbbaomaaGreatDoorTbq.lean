/-
  Records that are read: the walk of the program's recordOf.
-/
import Derived.Test.YtkpopingbbaomaaGreatDoorZzao
import Derived.Test.YtkpopingbbaomaaGreatDoorZzai
import Derived.BigQuiet
import Derived.Deep.RegionHeld3
namespace Go.Proofs.YtkpopingbbaomaaGreatDoor
open Go Go.RowKit
attribute [local go_sem ↓] Go.wp_at_zero Go.wp_at_succ


def rgn6 (v : Value) : List Oper :=
  { dst := some 31, op := Op.move (Operand.tmp 0), type := 237, pos := "l04_wal.go:196", after := #[], guard := none } ::
  { dst := some 32, op := Op.indexAddr 237 (Operand.tmp 31) (Operand.const (Value.int IntKind.i64 1)), type := 0, pos := "l04_wal.go:196", after := #[{ on := 0, ground := Ground.data }], guard := none } ::
  { dst := some 33, op := Op.load 5 (Operand.tmp 32), type := 5, pos := "l04_wal.go:196", after := #[{ on := 1, ground := Ground.data }], guard := none } ::
  { dst := some 34, op := Op.convert 5 3 (Operand.tmp 33), type := 3, pos := "l04_wal.go:196", after := #[{ on := 2, ground := Ground.data }], guard := none } ::
  { dst := some 35, op := Op.move (Operand.tmp 0), type := 237, pos := "l04_wal.go:196", after := #[], guard := none } ::
  { dst := some 36, op := Op.indexAddr 237 (Operand.tmp 35) (Operand.const (Value.int IntKind.i64 2)), type := 0, pos := "l04_wal.go:196", after := #[{ on := 4, ground := Ground.data }], guard := none } ::
  { dst := some 37, op := Op.load 5 (Operand.tmp 36), type := 5, pos := "l04_wal.go:196", after := #[{ on := 5, ground := Ground.data }], guard := none } ::
  { dst := some 38, op := Op.convert 5 3 (Operand.tmp 37), type := 3, pos := "l04_wal.go:196", after := #[{ on := 6, ground := Ground.data }], guard := none } ::
  { dst := some 39, op := Op.move (Operand.tmp 0), type := 237, pos := "l04_wal.go:196", after := #[], guard := none } ::
  { dst := some 40, op := Op.indexAddr 237 (Operand.tmp 39) (Operand.const (Value.int IntKind.i64 3)), type := 0, pos := "l04_wal.go:196", after := #[{ on := 8, ground := Ground.data }], guard := none } ::
  { dst := some 41, op := Op.load 5 (Operand.tmp 40), type := 5, pos := "l04_wal.go:196", after := #[{ on := 9, ground := Ground.data }], guard := none } ::
  { dst := some 42, op := Op.convert 5 3 (Operand.tmp 41), type := 3, pos := "l04_wal.go:196", after := #[{ on := 10, ground := Ground.data }], guard := none } ::
  { dst := some 43, op := Op.move (Operand.tmp 0), type := 237, pos := "l04_wal.go:196", after := #[], guard := none } ::
  { dst := some 44, op := Op.indexAddr 237 (Operand.tmp 43) (Operand.const (Value.int IntKind.i64 4)), type := 0, pos := "l04_wal.go:196", after := #[{ on := 12, ground := Ground.data }], guard := none } ::
  { dst := some 45, op := Op.load 5 (Operand.tmp 44), type := 5, pos := "l04_wal.go:196", after := #[{ on := 13, ground := Ground.data }], guard := none } ::
  { dst := some 46, op := Op.convert 5 3 (Operand.tmp 45), type := 3, pos := "l04_wal.go:196", after := #[{ on := 14, ground := Ground.data }], guard := none } ::
  { dst := some 47, op := Op.move (Operand.tmp 0), type := 237, pos := "l04_wal.go:196", after := #[], guard := none } ::
  { dst := some 48, op := Op.indexAddr 237 (Operand.tmp 47) (Operand.const (Value.int IntKind.i64 5)), type := 0, pos := "l04_wal.go:196", after := #[{ on := 16, ground := Ground.data }], guard := none } ::
  { dst := some 49, op := Op.load 5 (Operand.tmp 48), type := 5, pos := "l04_wal.go:196", after := #[{ on := 17, ground := Ground.data }], guard := none } ::
  { dst := some 50, op := Op.convert 5 3 (Operand.tmp 49), type := 3, pos := "l04_wal.go:196", after := #[{ on := 18, ground := Ground.data }], guard := none } ::
  { dst := some 51, op := Op.move (Operand.tmp 0), type := 237, pos := "l04_wal.go:196", after := #[], guard := none } ::
  { dst := some 52, op := Op.indexAddr 237 (Operand.tmp 51) (Operand.const (Value.int IntKind.i64 6)), type := 0, pos := "l04_wal.go:196", after := #[{ on := 20, ground := Ground.data }], guard := none } ::
  { dst := some 53, op := Op.load 5 (Operand.tmp 52), type := 5, pos := "l04_wal.go:196", after := #[{ on := 21, ground := Ground.data }], guard := none } ::
  { dst := some 54, op := Op.convert 5 3 (Operand.tmp 53), type := 3, pos := "l04_wal.go:196", after := #[{ on := 22, ground := Ground.data }], guard := none } ::
  { dst := some 55, op := Op.move (Operand.tmp 0), type := 237, pos := "l04_wal.go:196", after := #[], guard := none } ::
  { dst := some 56, op := Op.indexAddr 237 (Operand.tmp 55) (Operand.const (Value.int IntKind.i64 7)), type := 0, pos := "l04_wal.go:196", after := #[{ on := 24, ground := Ground.data }], guard := none } ::
  { dst := some 57, op := Op.load 5 (Operand.tmp 56), type := 5, pos := "l04_wal.go:196", after := #[{ on := 25, ground := Ground.data }], guard := none } ::
  { dst := some 58, op := Op.convert 5 3 (Operand.tmp 57), type := 3, pos := "l04_wal.go:196", after := #[{ on := 26, ground := Ground.data }], guard := none } ::
  { dst := some 59, op := Op.move (Operand.tmp 0), type := 237, pos := "l04_wal.go:196", after := #[], guard := none } ::
  { dst := some 60, op := Op.indexAddr 237 (Operand.tmp 59) (Operand.const (Value.int IntKind.i64 8)), type := 0, pos := "l04_wal.go:196", after := #[{ on := 28, ground := Ground.data }], guard := none } ::
  { dst := some 61, op := Op.load 5 (Operand.tmp 60), type := 5, pos := "l04_wal.go:196", after := #[{ on := 29, ground := Ground.data }], guard := none } ::
  { dst := some 62, op := Op.convert 5 3 (Operand.tmp 61), type := 3, pos := "l04_wal.go:196", after := #[{ on := 30, ground := Ground.data }], guard := none } ::
  { dst := some 63, op := Op.move (Operand.tmp 4), type := 22, pos := "l04_wal.go:196", after := #[], guard := none } ::
  { dst := some 64, op := Op.indexAddr 22 (Operand.tmp 63) (Operand.const (Value.int IntKind.i64 0)), type := 0, pos := "l04_wal.go:196", after := #[{ on := 32, ground := Ground.data }], guard := none } ::
  { dst := some 65, op := Op.load 9 (Operand.tmp 64), type := 9, pos := "l04_wal.go:196", after := #[{ on := 33, ground := Ground.data }], guard := none } ::
  { dst := some 66, op := Op.move (Operand.tmp 4), type := 22, pos := "l04_wal.go:196", after := #[], guard := none } ::
  { dst := some 67, op := Op.indexAddr 22 (Operand.tmp 66) (Operand.const (Value.int IntKind.i64 1)), type := 0, pos := "l04_wal.go:196", after := #[{ on := 35, ground := Ground.data }], guard := none } ::
  { dst := some 68, op := Op.load 9 (Operand.tmp 67), type := 9, pos := "l04_wal.go:196", after := #[{ on := 36, ground := Ground.data }], guard := none } ::
  { dst := some 69, op := Op.build 78 #[(0, Operand.tmp 34), (1, Operand.tmp 38), (2, Operand.tmp 42), (3, Operand.tmp 46), (4, Operand.tmp 50), (5, Operand.tmp 54), (6, Operand.tmp 58), (7, Operand.tmp 62), (8, Operand.tmp 65), (9, Operand.tmp 68)], type := 78, pos := "l04_wal.go:196", after := #[{ on := 3, ground := Ground.data }, { on := 7, ground := Ground.data }, { on := 11, ground := Ground.data }, { on := 15, ground := Ground.data }, { on := 19, ground := Ground.data }, { on := 23, ground := Ground.data }, { on := 27, ground := Ground.data }, { on := 31, ground := Ground.data }, { on := 34, ground := Ground.data }, { on := 37, ground := Ground.data }], guard := none } ::
  { dst := some 6, op := Op.assign (Operand.const v), type := 0, pos := "l04_wal.go:196", after := #[], guard := none } ::
  { dst := none, op := Op.assign (Operand.const undef), type := 0, pos := "l04_wal.go:196", after := List.toArray ({ on := 39, ground := Ground.data } :: { on := 38, ground := Ground.data } :: { on := 0, ground := Ground.phase } :: { on := 1, ground := Ground.phase } :: { on := 2, ground := Ground.phase } :: { on := 3, ground := Ground.phase } :: { on := 4, ground := Ground.phase } :: { on := 5, ground := Ground.phase } :: { on := 6, ground := Ground.phase } :: { on := 7, ground := Ground.phase } :: { on := 8, ground := Ground.phase } :: { on := 9, ground := Ground.phase } :: { on := 10, ground := Ground.phase } :: { on := 11, ground := Ground.phase } :: { on := 12, ground := Ground.phase } :: { on := 13, ground := Ground.phase } :: { on := 14, ground := Ground.phase } :: { on := 15, ground := Ground.phase } :: { on := 16, ground := Ground.phase } :: { on := 17, ground := Ground.phase } :: { on := 18, ground := Ground.phase } :: { on := 19, ground := Ground.phase } :: { on := 20, ground := Ground.phase } :: { on := 21, ground := Ground.phase } :: { on := 22, ground := Ground.phase } :: { on := 23, ground := Ground.phase } :: { on := 24, ground := Ground.phase } :: { on := 25, ground := Ground.phase } :: { on := 26, ground := Ground.phase } :: { on := 27, ground := Ground.phase } :: { on := 28, ground := Ground.phase } :: { on := 29, ground := Ground.phase } :: { on := 30, ground := Ground.phase } :: { on := 31, ground := Ground.phase } :: { on := 32, ground := Ground.phase } :: { on := 33, ground := Ground.phase } :: { on := 34, ground := Ground.phase } :: { on := 35, ground := Ground.phase } :: { on := 36, ground := Ground.phase } :: { on := 37, ground := Ground.phase } :: { on := 38, ground := Ground.phase } :: { on := 39, ground := Ground.phase } :: []), guard := none } :: []

set_option maxRecDepth 100000 in
set_option maxHeartbeats 4000000 in
theorem c_recordOf (bb off m : Nat) (x : List Int) (w : World) (hr : RdV w (some ⟨bb, off, none⟩) m (x.map (Value.int .u8))) (hz : ∀ z ∈ x, 0 ≤ z ∧ z < 256) (hm : m ≤ 65536) :
    Calls Tryz.prog 282 #[.slice (some ⟨bb, off, none⟩) m m] w fun e' w' => (∃ D, e' = .returned (.tuple #[.agg (agR D), .bool (rrD x).isSome]) ∧ ∀ D', rrD x = some D' → D = D') ∧ Below w.heap.size w w' := by
  have hl : x.length = m := by simpa using hr.1
  obtain ⟨V, hV⟩ : ∃ V, w.alloc (.cells #[.int .i64 0, .int .i64 0, .int .i64 0, .int .i64 0, .int .i64 0, .int .i64 0, .int .i64 0, .int .i64 0, .string ⟨#[]⟩, .string ⟨#[]⟩] 78) = V := ⟨_, rfl⟩
  have HB : Hid (Below w.heap.size w V) := by unfold Hid; rw [← hV]; exact (Below.refl _ _).alloc (Nat.le_refl _) _
  have BR : Hid (Box V w.heap.size 78 #[.int .i64 0, .int .i64 0, .int .i64 0, .int .i64 0, .int .i64 0, .int .i64 0, .int .i64 0, .int .i64 0, .string ⟨#[]⟩, .string ⟨#[]⟩]) := by unfold Hid; rw [← hV]; exact Box.new _ _ _
  obtain ⟨u0, u1, u2, u3, u4, u5, u6, u7, u8, u9⟩ := box10 BR.out
  obtain ⟨t0, t1, t2, t3, t4, t5, t6, t7, t8, t9⟩ := thaw10 BR.out
  by_cases h9 : m < 9
  · have E : Hid (rrD x = none) := rr_lo (by omega)
    clear hr hz
    go_enter Tryz.func282, Tryz.ntmps282
    go_wp2
    refine retR2 (D := zeroR) Tryz.results282 rfl rfl rfl (put10_box (D0 := zeroR) BR.out zeroR) ⟨?_, put10_below HB.out (Nat.le_refl _) zeroR⟩
    rw [E.out]
    exact ⟨zeroR, rfl, fun _ h => by cases h⟩
  have HZ : Hid (∀ z ∈ x, 0 ≤ z ∧ z < 256) := hz
  have HR : Hid (RdV w (some ⟨bb, off, none⟩) m (x.map (Value.int .u8))) := hr
  have HXL : Hid (x.length = m) := hl
  obtain ⟨b', off', ee, hbl, hc⟩ := (hr.below HB.out).2 (by omega)
  cases ee
  obtain ⟨x0, hx0⟩ : ∃ y, y = x.getD 0 0 := ⟨_, rfl⟩
  obtain ⟨x1, hx1⟩ : ∃ y, y = x.getD 1 0 := ⟨_, rfl⟩
  obtain ⟨x2, hx2⟩ : ∃ y, y = x.getD 2 0 := ⟨_, rfl⟩
  obtain ⟨x3, hx3⟩ : ∃ y, y = x.getD 3 0 := ⟨_, rfl⟩
  obtain ⟨x4, hx4⟩ : ∃ y, y = x.getD 4 0 := ⟨_, rfl⟩
  obtain ⟨x5, hx5⟩ : ∃ y, y = x.getD 5 0 := ⟨_, rfl⟩
  obtain ⟨x6, hx6⟩ : ∃ y, y = x.getD 6 0 := ⟨_, rfl⟩
  obtain ⟨x7, hx7⟩ : ∃ y, y = x.getD 7 0 := ⟨_, rfl⟩
  obtain ⟨x8, hx8⟩ : ∃ y, y = x.getD 8 0 := ⟨_, rfl⟩
  have d0 : V.cell? ⟨bb, off, none⟩ = some (.int .u8 x0) := by have := hc 0 (by omega); rw [Nat.add_zero] at this; rw [this, hx0]; exact map_get _ _ _ _ (by omega)
  have r0 : 0 ≤ x0 ∧ x0 < 256 := by rw [hx0, List.getD_eq_getElem?_getD, List.getElem?_eq_getElem (by omega)]; exact hz _ (List.getElem_mem _)
  have d1 : V.cell? ⟨bb, off + 1, none⟩ = some (.int .u8 x1) := by rw [hc 1 (by omega), hx1]; exact map_get _ _ _ _ (by omega)
  have r1 : 0 ≤ x1 ∧ x1 < 256 := by rw [hx1, List.getD_eq_getElem?_getD, List.getElem?_eq_getElem (by omega)]; exact hz _ (List.getElem_mem _)
  have d2 : V.cell? ⟨bb, off + 2, none⟩ = some (.int .u8 x2) := by rw [hc 2 (by omega), hx2]; exact map_get _ _ _ _ (by omega)
  have r2 : 0 ≤ x2 ∧ x2 < 256 := by rw [hx2, List.getD_eq_getElem?_getD, List.getElem?_eq_getElem (by omega)]; exact hz _ (List.getElem_mem _)
  have d3 : V.cell? ⟨bb, off + 3, none⟩ = some (.int .u8 x3) := by rw [hc 3 (by omega), hx3]; exact map_get _ _ _ _ (by omega)
  have r3 : 0 ≤ x3 ∧ x3 < 256 := by rw [hx3, List.getD_eq_getElem?_getD, List.getElem?_eq_getElem (by omega)]; exact hz _ (List.getElem_mem _)
  have d4 : V.cell? ⟨bb, off + 4, none⟩ = some (.int .u8 x4) := by rw [hc 4 (by omega), hx4]; exact map_get _ _ _ _ (by omega)
  have r4 : 0 ≤ x4 ∧ x4 < 256 := by rw [hx4, List.getD_eq_getElem?_getD, List.getElem?_eq_getElem (by omega)]; exact hz _ (List.getElem_mem _)
  have d5 : V.cell? ⟨bb, off + 5, none⟩ = some (.int .u8 x5) := by rw [hc 5 (by omega), hx5]; exact map_get _ _ _ _ (by omega)
  have r5 : 0 ≤ x5 ∧ x5 < 256 := by rw [hx5, List.getD_eq_getElem?_getD, List.getElem?_eq_getElem (by omega)]; exact hz _ (List.getElem_mem _)
  have d6 : V.cell? ⟨bb, off + 6, none⟩ = some (.int .u8 x6) := by rw [hc 6 (by omega), hx6]; exact map_get _ _ _ _ (by omega)
  have r6 : 0 ≤ x6 ∧ x6 < 256 := by rw [hx6, List.getD_eq_getElem?_getD, List.getElem?_eq_getElem (by omega)]; exact hz _ (List.getElem_mem _)
  have d7 : V.cell? ⟨bb, off + 7, none⟩ = some (.int .u8 x7) := by rw [hc 7 (by omega), hx7]; exact map_get _ _ _ _ (by omega)
  have r7 : 0 ≤ x7 ∧ x7 < 256 := by rw [hx7, List.getD_eq_getElem?_getD, List.getElem?_eq_getElem (by omega)]; exact hz _ (List.getElem_mem _)
  have d8 : V.cell? ⟨bb, off + 8, none⟩ = some (.int .u8 x8) := by rw [hc 8 (by omega), hx8]; exact map_get _ _ _ _ (by omega)
  have r8 : 0 ≤ x8 ∧ x8 < 256 := by rw [hx8, List.getD_eq_getElem?_getD, List.getElem?_eq_getElem (by omega)]; exact hz _ (List.getElem_mem _)
  have HX : Hid (x.getD 0 0 = x0 ∧ ∀ fb fa, numD x fb fa = ⟨x1, x2, x3, x4, x5, x6, x7, x8, fb, fa⟩) := ⟨hx0.symm, fun fb fa => by unfold numD; rw [hx1, hx2, hx3, hx4, hx5, hx6, hx7, hx8]⟩
  clear hr hz hc hl hx0 hx1 hx2 hx3 hx4 hx5 hx6 hx7 hx8
  by_cases hmk : x0 = 108
  case neg =>
    have E : Hid (rrD x = none) := rr_mark (by rw [HX.out.1]; exact hmk)
    have c0 : (x0 != 108) = true := by simpa using hmk
    clear hmk
    go_enter Tryz.func282, Tryz.ntmps282
    go_wp2
    refine retR2 (D := zeroR) Tryz.results282 rfl rfl rfl (put10_box (D0 := zeroR) BR.out zeroR) ⟨?_, put10_below HB.out (Nat.le_refl _) zeroR⟩
    rw [E.out]
    exact ⟨zeroR, rfl, fun _ h => by cases h⟩
  subst hmk
  obtain ⟨j, rfl⟩ : ∃ j, m = j + 9 := ⟨m - 9, by omega⟩
  have hdl : (x.drop 9).length = j := by have := HXL.out; simp; omega
  have RF : Hid (∀ (A : Addr), (j = 0 ∨ A = ⟨bb, off + 9, none⟩) → Calls Tryz.prog 304 #[.slice (some A) j j] V (AnsR V (x.drop 9))) := fun A hA => by
    refine c_implR (some A) j j (x.drop 9) V ?_ (fun z h => HZ.out z (List.mem_of_mem_drop h)) (by omega) (Nat.le_refl _) (by unfold maxLen; omega)
    rcases hA with rfl | rfl
    · have : x.drop 9 = [] := List.eq_nil_of_length_eq_zero hdl
      rw [this]; exact ⟨rfl, fun h => absurd h (by omega)⟩
    · have := (HR.out.below HB.out).cut 9 j (by omega)
      rwa [List.take_of_length_le (by omega)] at this
  have HDL : Hid ((x.drop 9).length = j) := hdl
  clear hdl
  rcases Nat.eq_zero_or_pos j with rfl | hj
  · have E : Hid (rrD x = none) := rr_form (by rw [List.eq_nil_of_length_eq_zero HDL.out]; rfl)
    have E3 : Hid (errR (x.drop 9) = 3 ∧ resR (x.drop 9) = []) := by unfold Hid; rw [List.eq_nil_of_length_eq_zero HDL.out]; exact ⟨rfl, rfl⟩
    go_enter Tryz.func282, Tryz.ntmps282
    go_wp2_with fail
    refine (RF.out ⟨bb, off, none⟩ (by simp)).mono ?_
    rintro e' w2 ⟨a2, c2, rfl, o2, hb⟩
    rw [E3.out.1, E3.out.2]
    have B2 : Hid (Below w.heap.size w w2) := HB.out.trans (hb.mono HB.out.size)
    have BR2 : Hid (Box w2 w.heap.size 78 #[.int .i64 0, .int .i64 0, .int .i64 0, .int .i64 0, .int .i64 0, .int .i64 0, .int .i64 0, .int .i64 0, .string ⟨#[]⟩, .string ⟨#[]⟩]) := BR.out.belowS hb
    clear hb o2 RF u0 u1 u2 u3 u4 u5 u6 u7 u8 u9 t0 t1 t2 t3 t4 t5 t6 t7 t8 t9 hV d0 d1 d2 d3 d4 d5 d6 d7 d8
    obtain ⟨u0, u1, u2, u3, u4, u5, u6, u7, u8, u9⟩ := box10 BR2.out
    obtain ⟨t0, t1, t2, t3, t4, t5, t6, t7, t8, t9⟩ := thaw10 BR2.out
    go_wp2
    refine retR2 (D := zeroR) Tryz.results282 rfl rfl rfl (put10_box (D0 := zeroR) BR2.out zeroR) ⟨?_, put10_below B2.out (Nat.le_refl _) zeroR⟩
    rw [E.out]
    exact ⟨zeroR, rfl, fun _ h => by cases h⟩
  go_enter Tryz.func282, Tryz.ntmps282
  go_wp2_with fail
  refine (RF.out ⟨bb, off + 9, none⟩ (.inr rfl)).mono ?_
  rintro e' w2 ⟨a2, c2, rfl, o2, hb⟩
  have B2 : Hid (Below w.heap.size w w2) := HB.out.trans (hb.mono HB.out.size)
  have BR2 : Hid (Box w2 w.heap.size 78 #[.int .i64 0, .int .i64 0, .int .i64 0, .int .i64 0, .int .i64 0, .int .i64 0, .int .i64 0, .int .i64 0, .string ⟨#[]⟩, .string ⟨#[]⟩]) := BR.out.belowS hb
  have e1 := far6 hb d1
  have e2 := far6 hb d2
  have e3 := far6 hb d3
  have e4 := far6 hb d4
  have e5 := far6 hb d5
  have e6 := far6 hb d6
  have e7 := far6 hb d7
  have e8 := far6 hb d8
  clear u0 u1 u2 u3 u4 u5 u6 u7 u8 u9 t0 t1 t2 t3 t4 t5 t6 t7 t8 t9 hV d0 d1 d2 d3 d4 d5 d6 d7 d8 RF
  obtain ⟨u0, u1, u2, u3, u4, u5, u6, u7, u8, u9⟩ := box10 BR2.out
  obtain ⟨t0, t1, t2, t3, t4, t5, t6, t7, t8, t9⟩ := thaw10 BR2.out
  cases ho : okR (x.drop 9) with
  | none =>
    have E : Hid (rrD x = none) := rr_form ho
    have E3 := ansR3 (zs := x.drop 9) (by have := HDL.out; omega) ho
    rw [E3.1, E3.2]
    clear E3 ho o2 hb e1 e2 e3 e4 e5 e6 e7 e8
    go_wp2
    refine retR2 (D := zeroR) Tryz.results282 rfl rfl rfl (put10_box (D0 := zeroR) BR2.out zeroR) ⟨?_, put10_below B2.out (Nat.le_refl _) zeroR⟩
    rw [E.out]
    exact ⟨zeroR, rfl, fun _ h => by cases h⟩
  | some ll =>
    have E3 := ansR0 (zs := x.drop 9) (by have := HDL.out; omega) ho
    have HSZ : Hid (∀ s ∈ ll, s.size ≤ 255) := okR_sizes (fun z h => HZ.out z (List.mem_of_mem_drop h)) ho
    rw [E3.1, E3.2]
    rw [E3.2] at o2
    clear E3
    by_cases h2 : ll.length = 2
    case neg =>
      have E : Hid (rrD x = none) := rr_two ho h2
      have h2' : (ll.length : Int) ≠ 2 := by omega
      clear ho o2 hb e1 e2 e3 e4 e5 e6 e7 e8
      go_wp2
      refine retR2 (D := zeroR) Tryz.results282 rfl rfl rfl (put10_box (D0 := zeroR) BR2.out zeroR) ⟨?_, put10_below B2.out (Nat.le_refl _) zeroR⟩
      rw [E.out]
      exact ⟨zeroR, rfl, fun _ h => by cases h⟩
    obtain ⟨fb, fa, rfl⟩ : ∃ fb fa, ll = [fb, fa] := by
      rcases ll with _ | ⟨p, _ | ⟨q, _ | ⟨r, t⟩⟩⟩
      · simp at h2
      · simp at h2
      · exact ⟨p, q, rfl⟩
      · simp at h2
    have HA : Hid (rrD x = if okLR ⟨x1, x2, x3, x4, x5, x6, x7, x8, fb, fa⟩ then some ⟨x1, x2, x3, x4, x5, x6, x7, x8, fb, fa⟩ else none) := by have := rr_at (by have := HXL.out; omega) HX.out.1 ho; rw [HX.out.2] at this; exact this
    have sb : fb.size ≤ 255 := HSZ.out fb (by simp)
    have sa : fa.size ≤ 255 := HSZ.out fa (by simp)
    obtain ⟨ga, rfl⟩ : ∃ g, a2 = some ⟨g, 0, none⟩ := by
      rcases own_form o2 with ⟨_, h⟩ | ⟨g, cap, hv, _⟩
      · simp at h
      · cases hv; exact ⟨g, rfl⟩
    have k0 : w2.cell? ⟨ga, 0, none⟩ = some (.string fb) := by rw [o2.cellAt 0 (by simp)]; rfl
    have k1 : w2.cell? ⟨ga, 1, none⟩ = some (.string fa) := by rw [o2.cellAt 1 (by simp)]; rfl
    have hga : ga < w2.heap.size := World.block_lt_of_cell? w2 _ k0
    have hbb : bb < w2.heap.size := World.block_lt_of_cell? w2 _ e1
    clear ho o2 hb HSZ h2
    obtain ⟨X, hX⟩ : ∃ X, X = famX w2 (.cells #[.int .i64 0, .int .i64 0, .int .i64 0, .int .i64 0, .int .i64 0, .int .i64 0, .int .i64 0, .int .i64 0, .string ⟨#[]⟩, .string ⟨#[]⟩] 78) := ⟨_, rfl⟩
    have HX0 : Hid (∀ k, ∃ j, w2.drewN k = X j) := by unfold Hid; rw [hX]; exact famX0 w2 _
    have HX1 : Hid (∀ k, ∃ j, (w2.alloc (.cells #[.int .i64 0, .int .i64 0, .int .i64 0, .int .i64 0, .int .i64 0, .int .i64 0, .int .i64 0, .int .i64 0, .string ⟨#[]⟩, .string ⟨#[]⟩] 78)).drewN k = X j) := by unfold Hid; rw [hX]; exact famX1 w2 _
    have n1 : ∀ j, (X j).cell? ⟨bb, off + 1, none⟩ = some (.int .u8 x1) := fun j => by rw [hX]; exact famX_cell e1 j
    have y1 : IntKind.i64.wrap x1 = x1 := by rw [IntKind.wrap_i64]; omega
    have n2 : ∀ j, (X j).cell? ⟨bb, off + 2, none⟩ = some (.int .u8 x2) := fun j => by rw [hX]; exact famX_cell e2 j
    have y2 : IntKind.i64.wrap x2 = x2 := by rw [IntKind.wrap_i64]; omega
    have n3 : ∀ j, (X j).cell? ⟨bb, off + 3, none⟩ = some (.int .u8 x3) := fun j => by rw [hX]; exact famX_cell e3 j
    have y3 : IntKind.i64.wrap x3 = x3 := by rw [IntKind.wrap_i64]; omega
    have n4 : ∀ j, (X j).cell? ⟨bb, off + 4, none⟩ = some (.int .u8 x4) := fun j => by rw [hX]; exact famX_cell e4 j
    have y4 : IntKind.i64.wrap x4 = x4 := by rw [IntKind.wrap_i64]; omega
    have n5 : ∀ j, (X j).cell? ⟨bb, off + 5, none⟩ = some (.int .u8 x5) := fun j => by rw [hX]; exact famX_cell e5 j
    have y5 : IntKind.i64.wrap x5 = x5 := by rw [IntKind.wrap_i64]; omega
    have n6 : ∀ j, (X j).cell? ⟨bb, off + 6, none⟩ = some (.int .u8 x6) := fun j => by rw [hX]; exact famX_cell e6 j
    have y6 : IntKind.i64.wrap x6 = x6 := by rw [IntKind.wrap_i64]; omega
    have n7 : ∀ j, (X j).cell? ⟨bb, off + 7, none⟩ = some (.int .u8 x7) := fun j => by rw [hX]; exact famX_cell e7 j
    have y7 : IntKind.i64.wrap x7 = x7 := by rw [IntKind.wrap_i64]; omega
    have n8 : ∀ j, (X j).cell? ⟨bb, off + 8, none⟩ = some (.int .u8 x8) := fun j => by rw [hX]; exact famX_cell e8 j
    have y8 : IntKind.i64.wrap x8 = x8 := by rw [IntKind.wrap_i64]; omega
    have m0 : ∀ j, (X j).cell? ⟨ga, 0, none⟩ = some (.string fb) := fun j => by rw [hX]; exact famX_cell k0 j
    have m1 : ∀ j, (X j).cell? ⟨ga, 1, none⟩ = some (.string fa) := fun j => by rw [hX]; exact famX_cell k1 j
    clear hX
    go_wp2_with fail
    refine region_alloc (rgn6 (.pointer (some ⟨w2.heap.size, 0, none⟩))) 39 { dst := some 6, op := Op.alloc 78, type := 0, pos := "l04_wal.go:196", after := #[], guard := none } { dst := none, op := Op.store 78 (Operand.tmp 6) (Operand.tmp 69), type := 0, pos := "l04_wal.go:196", after := List.toArray ({ on := 39, ground := Ground.data } :: { on := 38, ground := Ground.data } :: { on := 0, ground := Ground.phase } :: { on := 1, ground := Ground.phase } :: { on := 2, ground := Ground.phase } :: { on := 3, ground := Ground.phase } :: { on := 4, ground := Ground.phase } :: { on := 5, ground := Ground.phase } :: { on := 6, ground := Ground.phase } :: { on := 7, ground := Ground.phase } :: { on := 8, ground := Ground.phase } :: { on := 9, ground := Ground.phase } :: { on := 10, ground := Ground.phase } :: { on := 11, ground := Ground.phase } :: { on := 12, ground := Ground.phase } :: { on := 13, ground := Ground.phase } :: { on := 14, ground := Ground.phase } :: { on := 15, ground := Ground.phase } :: { on := 16, ground := Ground.phase } :: { on := 17, ground := Ground.phase } :: { on := 18, ground := Ground.phase } :: { on := 19, ground := Ground.phase } :: { on := 20, ground := Ground.phase } :: { on := 21, ground := Ground.phase } :: { on := 22, ground := Ground.phase } :: { on := 23, ground := Ground.phase } :: { on := 24, ground := Ground.phase } :: { on := 25, ground := Ground.phase } :: { on := 26, ground := Ground.phase } :: { on := 27, ground := Ground.phase } :: { on := 28, ground := Ground.phase } :: { on := 29, ground := Ground.phase } :: { on := 30, ground := Ground.phase } :: { on := 31, ground := Ground.phase } :: { on := 32, ground := Ground.phase } :: { on := 33, ground := Ground.phase } :: { on := 34, ground := Ground.phase } :: { on := 35, ground := Ground.phase } :: { on := 36, ground := Ground.phase } :: { on := 37, ground := Ground.phase } :: { on := 38, ground := Ground.phase } :: { on := 39, ground := Ground.phase } :: []), guard := none } (.pointer (some ⟨w2.heap.size, 0, none⟩)) X (fun w' => ∃ k, w' = (w2.alloc (.cells #[.int .i64 0, .int .i64 0, .int .i64 0, .int .i64 0, .int .i64 0, .int .i64 0, .int .i64 0, .int .i64 0, .string ⟨#[]⟩, .string ⟨#[]⟩] 78)).drewN k) (by kernel_rfl) (by kernel_rfl) (by kernel_rfl) (by rfl) (by rfl) (by rfl) (by kernel_rfl) (by kernel_rfl) (by kernel_rfl) rfl HX0.out (fun w' h => by obtain ⟨k, rfl⟩ := h; exact HX1.out k) ?q ?al
    case al =>
      intro A k K hK
      go_simp
      exact hK _ ⟨k, rfl⟩
    unfold rgn6
    repeat (go_big_quiet_step (fail))
    refine wpQuiet_nil ?_
    rintro w' ⟨kq, rfl⟩
    go_simp
    obtain ⟨V3, hV3⟩ : ∃ W, put10 ((w2.alloc (.cells #[.int .i64 0, .int .i64 0, .int .i64 0, .int .i64 0, .int .i64 0, .int .i64 0, .int .i64 0, .int .i64 0, .string ⟨#[]⟩, .string ⟨#[]⟩] 78)).drewN kq) w2.heap.size ⟨x1, x2, x3, x4, x5, x6, x7, x8, fb, fa⟩ = W := ⟨_, rfl⟩
    have hbv : Below w2.heap.size w2 V3 := by rw [← hV3]; exact put10_below (below_drewN ((Below.refl _ _).alloc (Nat.le_refl _) _) kq) (Nat.le_refl _) ⟨x1, x2, x3, x4, x5, x6, x7, x8, fb, fa⟩
    have BP3 : Hid (Box V3 w2.heap.size 78 #[.int .i64 x1, .int .i64 x2, .int .i64 x3, .int .i64 x4, .int .i64 x5, .int .i64 x6, .int .i64 x7, .int .i64 x8, .string fb, .string fa]) := by unfold Hid; rw [← hV3]; exact put10_box (D0 := zeroR) ((Box.new w2 _ _).drewN kq) ⟨x1, x2, x3, x4, x5, x6, x7, x8, fb, fa⟩
    have B3 : Hid (Below w.heap.size w V3) := B2.out.trans (hbv.mono B2.out.size)
    have BR3 : Hid (Box V3 w.heap.size 78 #[.int .i64 0, .int .i64 0, .int .i64 0, .int .i64 0, .int .i64 0, .int .i64 0, .int .i64 0, .int .i64 0, .string ⟨#[]⟩, .string ⟨#[]⟩]) := BR2.out.belowS hbv
    unfold put10 at hV3
    simp only at hV3
    rw [hV3]
    have l2 := BP3.out.lt
    have l3 := BR3.out.lt
    have PK : Hid (∀ W, Calls Tryz.prog 186 #[.agg #[.int .i64 x1, .int .i64 x2, .int .i64 x3, .int .i64 x4, .int .i64 x5, .int .i64 x6, .int .i64 x7, .int .i64 x8, .string fb, .string fa]] W fun e' w' => e' = .returned (.bool (okLR ⟨x1, x2, x3, x4, x5, x6, x7, x8, fb, fa⟩)) ∧ Below W.heap.size W w') := fun W => c_implLR x1 x2 x3 x4 x5 x6 x7 x8 fb fa W (by unfold maxLen; omega) (by unfold maxLen; omega)
    have ES : Hid ((rrD x).isSome = okLR ⟨x1, x2, x3, x4, x5, x6, x7, x8, fb, fa⟩ ∧ ∀ D', rrD x = some D' → ⟨x1, x2, x3, x4, x5, x6, x7, x8, fb, fa⟩ = D') := by
      unfold Hid
      rw [HA.out]
      cases hg : okLR ⟨x1, x2, x3, x4, x5, x6, x7, x8, fb, fa⟩
      · exact ⟨rfl, fun _ h => by cases h⟩
      · exact ⟨rfl, fun D' h => by cases h; rfl⟩
    obtain ⟨Y, hY⟩ : ∃ Y, Y = okLR ⟨x1, x2, x3, x4, x5, x6, x7, x8, fb, fa⟩ := ⟨_, rfl⟩
    rw [← hY] at PK ES
    clear hY hV3 hbv HA HX0 HX1 u0 u1 u2 u3 u4 u5 u6 u7 u8 u9 t0 t1 t2 t3 t4 t5 t6 t7 t8 t9 k0 k1 m0 m1 hga hbb e1 n1 y1 r1 e2 n2 y2 r2 e3 n3 y3 r3 e4 n4 y4 r4 e5 n5 y5 r5 e6 n6 y6 r6 e7 n7 y7 r7 e8 n8 y8 r8
    obtain ⟨p0, p1, p2, p3, p4, p5, p6, p7, p8, p9⟩ := box10 BP3.out
    obtain ⟨u0, u1, u2, u3, u4, u5, u6, u7, u8, u9⟩ := box10 BR3.out
    obtain ⟨t0, t1, t2, t3, t4, t5, t6, t7, t8, t9⟩ := thaw10 BR3.out
    go_wp2_with fail
    go_region_with (first
      | (go_at_call 186; refine (PK.out _).mono ?_; rintro e' w4 ⟨rfl, hb4⟩
         have BR4 : Hid (Box w4 w.heap.size 78 #[.int .i64 0, .int .i64 0, .int .i64 0, .int .i64 0, .int .i64 0, .int .i64 0, .int .i64 0, .int .i64 0, .string ⟨#[]⟩, .string ⟨#[]⟩]) := (hb4.block w.heap.size l3).trans BR3.out
         obtain ⟨s0, s1, s2, s3, s4, s5, s6, s7, s8, s9⟩ := box10 BR4.out
         obtain ⟨o0, o1, o2, o3, o4, o5, o6, o7, o8, o9⟩ := thaw10 BR4.out
         have BP4 : Hid (Box w4 w2.heap.size 78 #[.int .i64 x1, .int .i64 x2, .int .i64 x3, .int .i64 x4, .int .i64 x5, .int .i64 x6, .int .i64 x7, .int .i64 x8, .string fb, .string fa]) := (hb4.block w2.heap.size l2).trans BP3.out
         obtain ⟨z0, z1, z2, z3, z4, z5, z6, z7, z8, z9⟩ := box10 BP4.out))
    all_goals
      have B4 : Hid (Below w.heap.size w w4) := B3.out.drew.trans (hb4.mono B3.out.size)
      clear hb4 PK u0 u1 u2 u3 u4 u5 u6 u7 u8 u9 t0 t1 t2 t3 t4 t5 t6 t7 t8 t9 p0 p1 p2 p3 p4 p5 p6 p7 p8 p9
      go_wp2
      refine retR2 (D := ⟨x1, x2, x3, x4, x5, x6, x7, x8, fb, fa⟩) Tryz.results282 rfl rfl rfl (put10_box (D0 := zeroR) BR4.out ⟨x1, x2, x3, x4, x5, x6, x7, x8, fb, fa⟩) ⟨?_, put10_below B4.out (Nat.le_refl _) ⟨x1, x2, x3, x4, x5, x6, x7, x8, fb, fa⟩⟩
      rw [ES.out.1]
      exact ⟨⟨x1, x2, x3, x4, x5, x6, x7, x8, fb, fa⟩, rfl, ES.out.2⟩

end Go.Proofs.YtkpopingbbaomaaGreatDoor
