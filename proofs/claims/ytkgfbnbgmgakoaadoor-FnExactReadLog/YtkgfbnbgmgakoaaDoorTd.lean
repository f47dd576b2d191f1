/-
  Records that are read: the walk of the specification's l04Read.
-/
import Derived.Test.YtkgfbnbgmgakoaaDoorTb
import Derived.Test.YtkgfbnbgmgakoaaDoorRw
import Derived.Test.YtkgfbnbgmgakoaaDoorRn
import Derived.BigQuiet
import Derived.Deep.RegionHeld3
namespace Go.Proofs.YtkgfbnbgmgakoaaDoor
open Go Go.RowKit
attribute [local go_sem ↓] Go.wp_at_zero Go.wp_at_succ

def rgn7 (v : Value) : List Oper :=
  { dst := some 41, op := Op.move (Operand.tmp 4), type := 9, pos := "l04_wal.go:95", after := #[], guard := none } ::
  { dst := some 42, op := Op.index 9 (Operand.tmp 41) (Operand.const (Value.int IntKind.i64 1)), type := 5, pos := "l04_wal.go:95", after := #[{ on := 0, ground := Ground.data }], guard := none } ::
  { dst := some 43, op := Op.convert 5 3 (Operand.tmp 42), type := 3, pos := "l04_wal.go:95", after := #[{ on := 1, ground := Ground.data }], guard := none } ::
  { dst := some 44, op := Op.move (Operand.tmp 4), type := 9, pos := "l04_wal.go:95", after := #[], guard := none } ::
  { dst := some 45, op := Op.index 9 (Operand.tmp 44) (Operand.const (Value.int IntKind.i64 2)), type := 5, pos := "l04_wal.go:95", after := #[{ on := 3, ground := Ground.data }], guard := none } ::
  { dst := some 46, op := Op.convert 5 3 (Operand.tmp 45), type := 3, pos := "l04_wal.go:95", after := #[{ on := 4, ground := Ground.data }], guard := none } ::
  { dst := some 47, op := Op.move (Operand.tmp 4), type := 9, pos := "l04_wal.go:95", after := #[], guard := none } ::
  { dst := some 48, op := Op.index 9 (Operand.tmp 47) (Operand.const (Value.int IntKind.i64 3)), type := 5, pos := "l04_wal.go:95", after := #[{ on := 6, ground := Ground.data }], guard := none } ::
  { dst := some 49, op := Op.convert 5 3 (Operand.tmp 48), type := 3, pos := "l04_wal.go:95", after := #[{ on := 7, ground := Ground.data }], guard := none } ::
  { dst := some 50, op := Op.move (Operand.tmp 4), type := 9, pos := "l04_wal.go:95", after := #[], guard := none } ::
  { dst := some 51, op := Op.index 9 (Operand.tmp 50) (Operand.const (Value.int IntKind.i64 4)), type := 5, pos := "l04_wal.go:95", after := #[{ on := 9, ground := Ground.data }], guard := none } ::
  { dst := some 52, op := Op.convert 5 3 (Operand.tmp 51), type := 3, pos := "l04_wal.go:95", after := #[{ on := 10, ground := Ground.data }], guard := none } ::
  { dst := some 53, op := Op.move (Operand.tmp 4), type := 9, pos := "l04_wal.go:95", after := #[], guard := none } ::
  { dst := some 54, op := Op.index 9 (Operand.tmp 53) (Operand.const (Value.int IntKind.i64 5)), type := 5, pos := "l04_wal.go:95", after := #[{ on := 12, ground := Ground.data }], guard := none } ::
  { dst := some 55, op := Op.convert 5 3 (Operand.tmp 54), type := 3, pos := "l04_wal.go:95", after := #[{ on := 13, ground := Ground.data }], guard := none } ::
  { dst := some 56, op := Op.move (Operand.tmp 4), type := 9, pos := "l04_wal.go:95", after := #[], guard := none } ::
  { dst := some 57, op := Op.index 9 (Operand.tmp 56) (Operand.const (Value.int IntKind.i64 6)), type := 5, pos := "l04_wal.go:95", after := #[{ on := 15, ground := Ground.data }], guard := none } ::
  { dst := some 58, op := Op.convert 5 3 (Operand.tmp 57), type := 3, pos := "l04_wal.go:95", after := #[{ on := 16, ground := Ground.data }], guard := none } ::
  { dst := some 59, op := Op.move (Operand.tmp 4), type := 9, pos := "l04_wal.go:95", after := #[], guard := none } ::
  { dst := some 60, op := Op.index 9 (Operand.tmp 59) (Operand.const (Value.int IntKind.i64 7)), type := 5, pos := "l04_wal.go:95", after := #[{ on := 18, ground := Ground.data }], guard := none } ::
  { dst := some 61, op := Op.convert 5 3 (Operand.tmp 60), type := 3, pos := "l04_wal.go:95", after := #[{ on := 19, ground := Ground.data }], guard := none } ::
  { dst := some 62, op := Op.move (Operand.tmp 4), type := 9, pos := "l04_wal.go:95", after := #[], guard := none } ::
  { dst := some 63, op := Op.index 9 (Operand.tmp 62) (Operand.const (Value.int IntKind.i64 8)), type := 5, pos := "l04_wal.go:95", after := #[{ on := 21, ground := Ground.data }], guard := none } ::
  { dst := some 64, op := Op.convert 5 3 (Operand.tmp 63), type := 3, pos := "l04_wal.go:95", after := #[{ on := 22, ground := Ground.data }], guard := none } ::
  { dst := some 65, op := Op.move (Operand.tmp 6), type := 22, pos := "l04_wal.go:95", after := #[], guard := none } ::
  { dst := some 66, op := Op.indexAddr 22 (Operand.tmp 65) (Operand.const (Value.int IntKind.i64 0)), type := 0, pos := "l04_wal.go:95", after := #[{ on := 24, ground := Ground.data }], guard := none } ::
  { dst := some 67, op := Op.load 9 (Operand.tmp 66), type := 9, pos := "l04_wal.go:95", after := #[{ on := 25, ground := Ground.data }], guard := none } ::
  { dst := some 68, op := Op.move (Operand.tmp 6), type := 22, pos := "l04_wal.go:95", after := #[], guard := none } ::
  { dst := some 69, op := Op.indexAddr 22 (Operand.tmp 68) (Operand.const (Value.int IntKind.i64 1)), type := 0, pos := "l04_wal.go:95", after := #[{ on := 27, ground := Ground.data }], guard := none } ::
  { dst := some 70, op := Op.load 9 (Operand.tmp 69), type := 9, pos := "l04_wal.go:95", after := #[{ on := 28, ground := Ground.data }], guard := none } ::
  { dst := some 71, op := Op.build 75 #[(0, Operand.tmp 43), (1, Operand.tmp 46), (2, Operand.tmp 49), (3, Operand.tmp 52), (4, Operand.tmp 55), (5, Operand.tmp 58), (6, Operand.tmp 61), (7, Operand.tmp 64), (8, Operand.tmp 67), (9, Operand.tmp 70)], type := 75, pos := "l04_wal.go:95", after := #[{ on := 2, ground := Ground.data }, { on := 5, ground := Ground.data }, { on := 8, ground := Ground.data }, { on := 11, ground := Ground.data }, { on := 14, ground := Ground.data }, { on := 17, ground := Ground.data }, { on := 20, ground := Ground.data }, { on := 23, ground := Ground.data }, { on := 26, ground := Ground.data }, { on := 29, ground := Ground.data }], guard := none } ::
  { dst := some 8, op := Op.assign (Operand.const v), type := 0, pos := "l04_wal.go:95", after := #[], guard := none } ::
  { dst := none, op := Op.assign (Operand.const undef), type := 0, pos := "l04_wal.go:95", after := List.toArray ({ on := 31, ground := Ground.data } :: { on := 30, ground := Ground.data } :: { on := 0, ground := Ground.phase } :: { on := 1, ground := Ground.phase } :: { on := 2, ground := Ground.phase } :: { on := 3, ground := Ground.phase } :: { on := 4, ground := Ground.phase } :: { on := 5, ground := Ground.phase } :: { on := 6, ground := Ground.phase } :: { on := 7, ground := Ground.phase } :: { on := 8, ground := Ground.phase } :: { on := 9, ground := Ground.phase } :: { on := 10, ground := Ground.phase } :: { on := 11, ground := Ground.phase } :: { on := 12, ground := Ground.phase } :: { on := 13, ground := Ground.phase } :: { on := 14, ground := Ground.phase } :: { on := 15, ground := Ground.phase } :: { on := 16, ground := Ground.phase } :: { on := 17, ground := Ground.phase } :: { on := 18, ground := Ground.phase } :: { on := 19, ground := Ground.phase } :: { on := 20, ground := Ground.phase } :: { on := 21, ground := Ground.phase } :: { on := 22, ground := Ground.phase } :: { on := 23, ground := Ground.phase } :: { on := 24, ground := Ground.phase } :: { on := 25, ground := Ground.phase } :: { on := 26, ground := Ground.phase } :: { on := 27, ground := Ground.phase } :: { on := 28, ground := Ground.phase } :: { on := 29, ground := Ground.phase } :: { on := 30, ground := Ground.phase } :: { on := 31, ground := Ground.phase } :: []), guard := none } :: []

set_option maxRecDepth 100000 in
set_option maxHeartbeats 4000000 in
theorem c_l04Read (zs : List Int) (w : World) (hz : ∀ z ∈ zs, 0 ≤ z ∧ z < 256) (hn : zs.length ≤ 65536) (h4 : 4 ≤ zs.length) (hu : unsB zs = true) :
    Calls Tryd.prog 106 #[.string (strOfNums zs)] w fun e' w' => (∃ D, e' = .returned (.tuple #[.agg (agR D), .bool (rrD (headZ zs)).isSome]) ∧ ∀ D', rrD (headZ zs) = some D' → D = D') ∧ Below w.heap.size w w' := by
  obtain ⟨V, hV⟩ : ∃ V, w.alloc (.cells #[.int .i64 0, .int .i64 0, .int .i64 0, .int .i64 0, .int .i64 0, .int .i64 0, .int .i64 0, .int .i64 0, .string ⟨#[]⟩, .string ⟨#[]⟩] 75) = V := ⟨_, rfl⟩
  have HB : Hid (Below w.heap.size w V) := by unfold Hid; rw [← hV]; exact (Below.refl _ _).alloc (Nat.le_refl _) _
  have BR : Hid (Box V w.heap.size 75 #[.int .i64 0, .int .i64 0, .int .i64 0, .int .i64 0, .int .i64 0, .int .i64 0, .int .i64 0, .int .i64 0, .string ⟨#[]⟩, .string ⟨#[]⟩]) := by unfold Hid; rw [← hV]; exact Box.new _ _ _
  obtain ⟨u0, u1, u2, u3, u4, u5, u6, u7, u8, u9⟩ := box10 BR.out
  obtain ⟨t0, t1, t2, t3, t4, t5, t6, t7, t8, t9⟩ := thaw10 BR.out
  obtain ⟨tt, htt⟩ : ∃ t, t = strOfNums zs := ⟨_, rfl⟩
  obtain ⟨x, hxx⟩ : ∃ x, x = headZ zs := ⟨_, rfl⟩
  obtain ⟨X, hX⟩ : ∃ X, X = strOfNums x := ⟨_, rfl⟩
  have US : Hid (∀ W, Calls Tryd.prog 105 #[.string tt] W fun e w' => e = .returned (.tuple #[.string X, .bool true]) ∧ Below W.heap.size W w') := fun W => by
    rw [htt, hX, hxx]
    have := c_unsealS zs W hz hn h4
    rw [hu] at this
    exact this
  have hxz : ∀ z ∈ x, 0 ≤ z ∧ z < 256 := by rw [hxx]; exact head_bytes hz
  have hXs : X.size = x.length := by rw [hX, strOfNums_size]
  have hxl : x.length ≤ 65532 := by rw [hxx, headZ_len]; omega
  have HG : Hid (∀ p (h : p < X.size), ((X[p]'h).toNat : Int) = x.getD p 0) := by
    intro p h; subst hX; exact son_get hxz h
  have HX9 : Hid (X.extract 9 X.size = strOfNums (x.drop 9)) := by unfold Hid; rw [hXs, hX, son_cut, List.take_of_length_le (by simp)]
  have HXS : Hid (X.size = x.length) := hXs
  have HZ : Hid (∀ z ∈ x, 0 ≤ z ∧ z < 256) := hxz
  have hXb : X.size ≤ 65532 := by omega
  rw [← htt, ← hxx]
  clear htt hX hXs hxz hxx hz hn h4 hu hxl
  go_enter Tryd.func106, Tryd.ntmps106
  go_wp2_with fail
  refine (US.out V).mono ?_
  rintro e' w1 ⟨rfl, hb⟩
  have B1 : Hid (Below w.heap.size w w1) := HB.out.trans (hb.mono HB.out.size)
  have BR1 : Hid (Box w1 w.heap.size 75 #[.int .i64 0, .int .i64 0, .int .i64 0, .int .i64 0, .int .i64 0, .int .i64 0, .int .i64 0, .int .i64 0, .string ⟨#[]⟩, .string ⟨#[]⟩]) := BR.out.belowS hb
  clear hb hV HB BR US u0 u1 u2 u3 u4 u5 u6 u7 u8 u9 t0 t1 t2 t3 t4 t5 t6 t7 t8 t9
  obtain ⟨u0, u1, u2, u3, u4, u5, u6, u7, u8, u9⟩ := box10 BR1.out
  obtain ⟨t0, t1, t2, t3, t4, t5, t6, t7, t8, t9⟩ := thaw10 BR1.out
  by_cases h10 : X.size < 10
  · have E : Hid (rrD x = none) := by
      have hl := HXS.out
      by_cases h : x.length < 9
      · exact rr_lo h
      · refine rr_form ?_
        have : x.drop 9 = [] := List.eq_nil_of_length_eq_zero (by rw [List.length_drop]; omega)
        rw [this]; rfl
    go_wp2
    refine retR2 (D := zeroR) Tryd.results106 rfl rfl rfl (put10_box (D0 := zeroR) BR1.out zeroR) ⟨?_, put10_below B1.out (Nat.le_refl _) zeroR⟩
    rw [E.out]
    exact ⟨zeroR, rfl, fun _ h => by cases h⟩
  obtain ⟨x0, hx0⟩ : ∃ y, y = x.getD 0 0 := ⟨_, rfl⟩
  have ix0 := ixS (t := X) (k := 0) x0 0 rfl (by omega) (by rw [hx0]; exact HG.out _ _)
  have r0 : 0 ≤ x0 ∧ x0 < 256 := by rw [hx0, ← HG.out 0 (by omega)]; have := (X[0]'(by omega)).toNat_lt; omega
  obtain ⟨x1, hx1⟩ : ∃ y, y = x.getD 1 0 := ⟨_, rfl⟩
  have ix1 := ixS (t := X) (k := 1) x1 1 rfl (by omega) (by rw [hx1]; exact HG.out _ _)
  have r1 : 0 ≤ x1 ∧ x1 < 256 := by rw [hx1, ← HG.out 1 (by omega)]; have := (X[1]'(by omega)).toNat_lt; omega
  obtain ⟨x2, hx2⟩ : ∃ y, y = x.getD 2 0 := ⟨_, rfl⟩
  have ix2 := ixS (t := X) (k := 2) x2 2 rfl (by omega) (by rw [hx2]; exact HG.out _ _)
  have r2 : 0 ≤ x2 ∧ x2 < 256 := by rw [hx2, ← HG.out 2 (by omega)]; have := (X[2]'(by omega)).toNat_lt; omega
  obtain ⟨x3, hx3⟩ : ∃ y, y = x.getD 3 0 := ⟨_, rfl⟩
  have ix3 := ixS (t := X) (k := 3) x3 3 rfl (by omega) (by rw [hx3]; exact HG.out _ _)
  have r3 : 0 ≤ x3 ∧ x3 < 256 := by rw [hx3, ← HG.out 3 (by omega)]; have := (X[3]'(by omega)).toNat_lt; omega
  obtain ⟨x4, hx4⟩ : ∃ y, y = x.getD 4 0 := ⟨_, rfl⟩
  have ix4 := ixS (t := X) (k := 4) x4 4 rfl (by omega) (by rw [hx4]; exact HG.out _ _)
  have r4 : 0 ≤ x4 ∧ x4 < 256 := by rw [hx4, ← HG.out 4 (by omega)]; have := (X[4]'(by omega)).toNat_lt; omega
  obtain ⟨x5, hx5⟩ : ∃ y, y = x.getD 5 0 := ⟨_, rfl⟩
  have ix5 := ixS (t := X) (k := 5) x5 5 rfl (by omega) (by rw [hx5]; exact HG.out _ _)
  have r5 : 0 ≤ x5 ∧ x5 < 256 := by rw [hx5, ← HG.out 5 (by omega)]; have := (X[5]'(by omega)).toNat_lt; omega
  obtain ⟨x6, hx6⟩ : ∃ y, y = x.getD 6 0 := ⟨_, rfl⟩
  have ix6 := ixS (t := X) (k := 6) x6 6 rfl (by omega) (by rw [hx6]; exact HG.out _ _)
  have r6 : 0 ≤ x6 ∧ x6 < 256 := by rw [hx6, ← HG.out 6 (by omega)]; have := (X[6]'(by omega)).toNat_lt; omega
  obtain ⟨x7, hx7⟩ : ∃ y, y = x.getD 7 0 := ⟨_, rfl⟩
  have ix7 := ixS (t := X) (k := 7) x7 7 rfl (by omega) (by rw [hx7]; exact HG.out _ _)
  have r7 : 0 ≤ x7 ∧ x7 < 256 := by rw [hx7, ← HG.out 7 (by omega)]; have := (X[7]'(by omega)).toNat_lt; omega
  obtain ⟨x8, hx8⟩ : ∃ y, y = x.getD 8 0 := ⟨_, rfl⟩
  have ix8 := ixS (t := X) (k := 8) x8 8 rfl (by omega) (by rw [hx8]; exact HG.out _ _)
  have r8 : 0 ≤ x8 ∧ x8 < 256 := by rw [hx8, ← HG.out 8 (by omega)]; have := (X[8]'(by omega)).toNat_lt; omega
  have HX : Hid (x.getD 0 0 = x0 ∧ ∀ fb fa, numD x fb fa = ⟨x1, x2, x3, x4, x5, x6, x7, x8, fb, fa⟩) := ⟨hx0.symm, fun fb fa => by unfold numD; rw [hx1, hx2, hx3, hx4, hx5, hx6, hx7, hx8]⟩
  clear HG hx0 hx1 hx2 hx3 hx4 hx5 hx6 hx7 hx8
  by_cases hmk : x0 = 108
  case neg =>
    have E : Hid (rrD x = none) := rr_mark (by rw [HX.out.1]; exact hmk)
    have c0 : (x0 != 108) = true := by simpa using hmk
    clear hmk
    go_wp2
    refine retR2 (D := zeroR) Tryd.results106 rfl rfl rfl (put10_box (D0 := zeroR) BR1.out zeroR) ⟨?_, put10_below B1.out (Nat.le_refl _) zeroR⟩
    rw [E.out]
    exact ⟨zeroR, rfl, fun _ h => by cases h⟩
  have c0 : (x0 != 108) = false := by simp [hmk]
  have HM : Hid (x.getD 0 0 = 108) := by unfold Hid; rw [HX.out.1]; exact hmk
  clear hmk
  have RD : Hid (∀ W : World, Calls Tryd.prog 142 #[.string (X.extract 9 X.size)] W (AnsI W (x.drop 9))) := fun W => by
    rw [HX9.out]
    exact c39 (x.drop 9) W (fun z h => HZ.out z (List.mem_of_mem_drop h)) (by rw [List.length_drop]; have := HXS.out; omega)
  have g9 : (9 : Int) ≤ (X.size : Int) := by omega
  clear HX9
  go_wp2_with fail
  refine (RD.out w1).mono ?_
  rintro e' w2 ⟨v, rfl, o2, hb⟩
  have B2 : Hid (Below w.heap.size w w2) := B1.out.trans (hb.mono B1.out.size)
  have BR2 : Hid (Box w2 w.heap.size 75 #[.int .i64 0, .int .i64 0, .int .i64 0, .int .i64 0, .int .i64 0, .int .i64 0, .int .i64 0, .int .i64 0, .string ⟨#[]⟩, .string ⟨#[]⟩]) := BR1.out.belowS hb
  clear u0 u1 u2 u3 u4 u5 u6 u7 u8 u9 t0 t1 t2 t3 t4 t5 t6 t7 t8 t9 B1 BR1 RD hb
  obtain ⟨u0, u1, u2, u3, u4, u5, u6, u7, u8, u9⟩ := box10 BR2.out
  obtain ⟨t0, t1, t2, t3, t4, t5, t6, t7, t8, t9⟩ := thaw10 BR2.out
  cases ho : okR (x.drop 9) with
  | none =>
    have E : Hid (rrD x = none) := rr_form ho
    obtain ⟨a2, c2, rfl, _⟩ := own_slc o2
    clear ho o2
    rw [Option.isSome_none]
    go_wp2
    refine retR2 (D := zeroR) Tryd.results106 rfl rfl rfl (put10_box (D0 := zeroR) BR2.out zeroR) ⟨?_, put10_below B2.out (Nat.le_refl _) zeroR⟩
    rw [E.out]
    exact ⟨zeroR, rfl, fun _ h => by cases h⟩
  | some ll =>
    have HSZ : Hid (∀ s ∈ ll, s.size ≤ 255) := okR_sizes (fun z h => HZ.out z (List.mem_of_mem_drop h)) ho
    rw [ho] at o2
    simp only [Option.getD_some] at o2
    obtain ⟨a2, c2, rfl, _⟩ := own_slc o2
    rw [Option.isSome_some]
    by_cases h2 : ll.length = 2
    case neg =>
      have E : Hid (rrD x = none) := rr_two ho h2
      have h2' : (ll.length : Int) ≠ 2 := by omega
      clear ho o2
      go_wp2
      refine retR2 (D := zeroR) Tryd.results106 rfl rfl rfl (put10_box (D0 := zeroR) BR2.out zeroR) ⟨?_, put10_below B2.out (Nat.le_refl _) zeroR⟩
      rw [E.out]
      exact ⟨zeroR, rfl, fun _ h => by cases h⟩
    obtain ⟨fb, fa, rfl⟩ : ∃ fb fa, ll = [fb, fa] := by
      rcases ll with _ | ⟨p, _ | ⟨q, _ | ⟨r, t⟩⟩⟩
      · simp at h2
      · simp at h2
      · exact ⟨p, q, rfl⟩
      · simp at h2
    have HA : Hid (rrD x = if okLR ⟨x1, x2, x3, x4, x5, x6, x7, x8, fb, fa⟩ then some ⟨x1, x2, x3, x4, x5, x6, x7, x8, fb, fa⟩ else none) := by have := rr_at (by have := HXS.out; omega) HM.out ho; rw [HX.out.2] at this; exact this
    have sb : fb.size ≤ 255 := HSZ.out fb (by simp)
    have sa : fa.size ≤ 255 := HSZ.out fa (by simp)
    obtain ⟨ga, rfl⟩ : ∃ g, a2 = some ⟨g, 0, none⟩ := by
      rcases own_form o2 with ⟨_, h⟩ | ⟨g, cap, hv, _⟩
      · simp at h
      · cases hv; exact ⟨g, rfl⟩
    have k0 : w2.cell? ⟨ga, 0, none⟩ = some (.string fb) := by rw [o2.cellAt 0 (by simp)]; rfl
    have k1 : w2.cell? ⟨ga, 1, none⟩ = some (.string fa) := by rw [o2.cellAt 1 (by simp)]; rfl
    have y1 : IntKind.i64.wrap x1 = x1 := by rw [IntKind.wrap_i64]; omega
    have y2 : IntKind.i64.wrap x2 = x2 := by rw [IntKind.wrap_i64]; omega
    have y3 : IntKind.i64.wrap x3 = x3 := by rw [IntKind.wrap_i64]; omega
    have y4 : IntKind.i64.wrap x4 = x4 := by rw [IntKind.wrap_i64]; omega
    have y5 : IntKind.i64.wrap x5 = x5 := by rw [IntKind.wrap_i64]; omega
    have y6 : IntKind.i64.wrap x6 = x6 := by rw [IntKind.wrap_i64]; omega
    have y7 : IntKind.i64.wrap x7 = x7 := by rw [IntKind.wrap_i64]; omega
    have y8 : IntKind.i64.wrap x8 = x8 := by rw [IntKind.wrap_i64]; omega
    obtain ⟨XF, hXF⟩ : ∃ X, X = famX w2 (.cells #[.int .i64 0, .int .i64 0, .int .i64 0, .int .i64 0, .int .i64 0, .int .i64 0, .int .i64 0, .int .i64 0, .string ⟨#[]⟩, .string ⟨#[]⟩] 75) := ⟨_, rfl⟩
    have HX0 : Hid (∀ k, ∃ j, w2.drewN k = XF j) := by unfold Hid; rw [hXF]; exact famX0 w2 _
    have HX1 : Hid (∀ k, ∃ j, (w2.alloc (.cells #[.int .i64 0, .int .i64 0, .int .i64 0, .int .i64 0, .int .i64 0, .int .i64 0, .int .i64 0, .int .i64 0, .string ⟨#[]⟩, .string ⟨#[]⟩] 75)).drewN k = XF j) := by unfold Hid; rw [hXF]; exact famX1 w2 _
    have m0 : ∀ j, (XF j).cell? ⟨ga, 0, none⟩ = some (.string fb) := fun j => by rw [hXF]; exact famX_cell k0 j
    have m1 : ∀ j, (XF j).cell? ⟨ga, 1, none⟩ = some (.string fa) := fun j => by rw [hXF]; exact famX_cell k1 j
    clear hXF ho o2 HSZ h2
    go_wp2_with fail
    refine region_alloc (rgn7 (.pointer (some ⟨w2.heap.size, 0, none⟩))) 31 { dst := some 8, op := Op.alloc 75, type := 0, pos := "l04_wal.go:95", after := #[], guard := none } { dst := none, op := Op.store 75 (Operand.tmp 8) (Operand.tmp 71), type := 0, pos := "l04_wal.go:95", after := List.toArray ({ on := 31, ground := Ground.data } :: { on := 30, ground := Ground.data } :: { on := 0, ground := Ground.phase } :: { on := 1, ground := Ground.phase } :: { on := 2, ground := Ground.phase } :: { on := 3, ground := Ground.phase } :: { on := 4, ground := Ground.phase } :: { on := 5, ground := Ground.phase } :: { on := 6, ground := Ground.phase } :: { on := 7, ground := Ground.phase } :: { on := 8, ground := Ground.phase } :: { on := 9, ground := Ground.phase } :: { on := 10, ground := Ground.phase } :: { on := 11, ground := Ground.phase } :: { on := 12, ground := Ground.phase } :: { on := 13, ground := Ground.phase } :: { on := 14, ground := Ground.phase } :: { on := 15, ground := Ground.phase } :: { on := 16, ground := Ground.phase } :: { on := 17, ground := Ground.phase } :: { on := 18, ground := Ground.phase } :: { on := 19, ground := Ground.phase } :: { on := 20, ground := Ground.phase } :: { on := 21, ground := Ground.phase } :: { on := 22, ground := Ground.phase } :: { on := 23, ground := Ground.phase } :: { on := 24, ground := Ground.phase } :: { on := 25, ground := Ground.phase } :: { on := 26, ground := Ground.phase } :: { on := 27, ground := Ground.phase } :: { on := 28, ground := Ground.phase } :: { on := 29, ground := Ground.phase } :: { on := 30, ground := Ground.phase } :: { on := 31, ground := Ground.phase } :: []), guard := none } (.pointer (some ⟨w2.heap.size, 0, none⟩)) XF (fun w' => ∃ k, w' = (w2.alloc (.cells #[.int .i64 0, .int .i64 0, .int .i64 0, .int .i64 0, .int .i64 0, .int .i64 0, .int .i64 0, .int .i64 0, .string ⟨#[]⟩, .string ⟨#[]⟩] 75)).drewN k) (by kernel_rfl) (by kernel_rfl) (by kernel_rfl) (by rfl) (by rfl) (by rfl) (by kernel_rfl) (by kernel_rfl) (by kernel_rfl) rfl HX0.out (fun w' h => by obtain ⟨k, rfl⟩ := h; exact HX1.out k) ?q ?al
    case al =>
      intro A k K hK
      go_simp
      exact hK _ ⟨k, rfl⟩
    unfold rgn7
    repeat (go_big_quiet_step (fail))
    refine wpQuiet_nil ?_
    rintro w' ⟨kq, rfl⟩
    go_simp
    obtain ⟨V3, hV3⟩ : ∃ W, put10 ((w2.alloc (.cells #[.int .i64 0, .int .i64 0, .int .i64 0, .int .i64 0, .int .i64 0, .int .i64 0, .int .i64 0, .int .i64 0, .string ⟨#[]⟩, .string ⟨#[]⟩] 75)).drewN kq) w2.heap.size ⟨x1, x2, x3, x4, x5, x6, x7, x8, fb, fa⟩ = W := ⟨_, rfl⟩
    have hbv : Below w2.heap.size w2 V3 := by rw [← hV3]; exact put10_below (below_drewN ((Below.refl _ _).alloc (Nat.le_refl _) _) kq) (Nat.le_refl _) ⟨x1, x2, x3, x4, x5, x6, x7, x8, fb, fa⟩
    have BP3 : Hid (Box V3 w2.heap.size 75 #[.int .i64 x1, .int .i64 x2, .int .i64 x3, .int .i64 x4, .int .i64 x5, .int .i64 x6, .int .i64 x7, .int .i64 x8, .string fb, .string fa]) := by unfold Hid; rw [← hV3]; exact put10_box (D0 := zeroR) ((Box.new w2 _ _).drewN kq) ⟨x1, x2, x3, x4, x5, x6, x7, x8, fb, fa⟩
    have B3 : Hid (Below w.heap.size w V3) := B2.out.trans (hbv.mono B2.out.size)
    have BR3 : Hid (Box V3 w.heap.size 75 #[.int .i64 0, .int .i64 0, .int .i64 0, .int .i64 0, .int .i64 0, .int .i64 0, .int .i64 0, .int .i64 0, .string ⟨#[]⟩, .string ⟨#[]⟩]) := BR2.out.belowS hbv
    unfold put10 at hV3
    simp only at hV3
    rw [hV3]
    have l2 := BP3.out.lt
    have l3 := BR3.out.lt
    have PK : Hid (∀ W, Calls Tryd.prog 73 #[.agg #[.int .i64 x1, .int .i64 x2, .int .i64 x3, .int .i64 x4, .int .i64 x5, .int .i64 x6, .int .i64 x7, .int .i64 x8, .string fb, .string fa]] W fun e' w' => e' = .returned (.bool (okLR ⟨x1, x2, x3, x4, x5, x6, x7, x8, fb, fa⟩)) ∧ Below W.heap.size W w') := fun W => by rw [← okLS_eq]; exact c_specLR x1 x2 x3 x4 x5 x6 x7 x8 fb fa W (by omega) (by omega)
    have ES : Hid ((rrD x).isSome = okLR ⟨x1, x2, x3, x4, x5, x6, x7, x8, fb, fa⟩ ∧ ∀ D', rrD x = some D' → ⟨x1, x2, x3, x4, x5, x6, x7, x8, fb, fa⟩ = D') := by
      unfold Hid
      rw [HA.out]
      cases hg : okLR ⟨x1, x2, x3, x4, x5, x6, x7, x8, fb, fa⟩
      · exact ⟨rfl, fun _ h => by cases h⟩
      · exact ⟨rfl, fun D' h => by cases h; rfl⟩
    obtain ⟨Y, hY⟩ : ∃ Y, Y = okLR ⟨x1, x2, x3, x4, x5, x6, x7, x8, fb, fa⟩ := ⟨_, rfl⟩
    rw [← hY] at PK ES
    clear hY hV3 hbv HA HX0 HX1 u0 u1 u2 u3 u4 u5 u6 u7 u8 u9 t0 t1 t2 t3 t4 t5 t6 t7 t8 t9 k0 k1 m0 m1 ix1 y1 r1 ix2 y2 r2 ix3 y3 r3 ix4 y4 r4 ix5 y5 r5 ix6 y6 r6 ix7 y7 r7 ix8 y8 r8
    obtain ⟨p0, p1, p2, p3, p4, p5, p6, p7, p8, p9⟩ := box10 BP3.out
    obtain ⟨u0, u1, u2, u3, u4, u5, u6, u7, u8, u9⟩ := box10 BR3.out
    obtain ⟨t0, t1, t2, t3, t4, t5, t6, t7, t8, t9⟩ := thaw10 BR3.out
    go_wp2_with fail
    go_region_with (first
      | (go_at_call 73; refine (PK.out _).mono ?_; rintro e' w4 ⟨rfl, hb4⟩
         have BR4 : Hid (Box w4 w.heap.size 75 #[.int .i64 0, .int .i64 0, .int .i64 0, .int .i64 0, .int .i64 0, .int .i64 0, .int .i64 0, .int .i64 0, .string ⟨#[]⟩, .string ⟨#[]⟩]) := (hb4.block w.heap.size l3).trans BR3.out
         obtain ⟨s0, s1, s2, s3, s4, s5, s6, s7, s8, s9⟩ := box10 BR4.out
         obtain ⟨o0, o1, o2, o3, o4, o5, o6, o7, o8, o9⟩ := thaw10 BR4.out
         have BP4 : Hid (Box w4 w2.heap.size 75 #[.int .i64 x1, .int .i64 x2, .int .i64 x3, .int .i64 x4, .int .i64 x5, .int .i64 x6, .int .i64 x7, .int .i64 x8, .string fb, .string fa]) := (hb4.block w2.heap.size l2).trans BP3.out
         obtain ⟨z0, z1, z2, z3, z4, z5, z6, z7, z8, z9⟩ := box10 BP4.out))
    all_goals
      have B4 : Hid (Below w.heap.size w w4) := B3.out.drew.trans (hb4.mono B3.out.size)
      clear hb4 PK u0 u1 u2 u3 u4 u5 u6 u7 u8 u9 t0 t1 t2 t3 t4 t5 t6 t7 t8 t9 p0 p1 p2 p3 p4 p5 p6 p7 p8 p9
      go_wp2
      refine retR2 (D := ⟨x1, x2, x3, x4, x5, x6, x7, x8, fb, fa⟩) Tryd.results106 rfl rfl rfl (put10_box (D0 := zeroR) BR4.out ⟨x1, x2, x3, x4, x5, x6, x7, x8, fb, fa⟩) ⟨?_, put10_below B4.out (Nat.le_refl _) ⟨x1, x2, x3, x4, x5, x6, x7, x8, fb, fa⟩⟩
      rw [ES.out.1]
      exact ⟨⟨x1, x2, x3, x4, x5, x6, x7, x8, fb, fa⟩, rfl, ES.out.2⟩

end Go.Proofs.YtkgfbnbgmgakoaaDoor
