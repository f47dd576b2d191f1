/-
  The reader of tokens in memory: a column is taken, a value is taken.
-/
import Derived.Test.YtbpfpjmjmkpjoaaGreatDoorQmq
import Derived.Deep.RegionWith
import Derived.Deep.RegionLaw
import Derived.LoopN
namespace Go.Proofs.YtbpfpjmjmkpjoaaGreatDoor
open Go Go.RowKit
attribute [local go_sem ↓] Go.wp_at_zero Go.wp_at_succ

set_option linter.unusedVariables false
set_option linter.unusedSimpArgs false
theorem loadV3 {w : World} {r : Nat} {v0 v1 v2 : Value} (hb : Box w r 31 #[v0, v1, v2]) : (loadVar 31 ⟨r, 0, none⟩).run Tryz.prog w = .ok (.agg #[v0, v1, v2]) w := by
  have e0 : w.cell? ⟨r, 0, none⟩ = some v0 := hb.cell 0
  have e1 : w.cell? ⟨r, 1, none⟩ = some v1 := hb.cell 1
  have e2 : w.cell? ⟨r, 2, none⟩ = some v2 := hb.cell 2
  simp [go_sem, e0, e1, e2]
theorem retV2 {fn : Func} {p u : Tmp} (h : fn.results = #[.cell p 31, .tmp u]) {R : Ending → World → Prop} {a : Act} {w : World} {r : Nat} {v0 v1 v2 v : Value} (hp : a.tmps.getD p undef = .pointer (some ⟨r, 0, none⟩)) (hu : a.tmps.getD u undef = v) (hd : a.defers = []) (hb : Box w r 31 #[v0, v1, v2]) (hR : R (.returned (.tuple #[.agg #[v0, v1, v2], v])) w) : bodyPost Tryz.prog fn R .ret a w := by
  refine bodyPost_ret ?_ hd hR
  have hp' : a.tmps[p]?.getD undef = .pointer (some ⟨r, 0, none⟩) := by simpa using hp
  have hu' : a.tmps[u]?.getD undef = v := by simpa using hu
  simp only [results, h]
  simp [Result.andThen, hp', hu', asAddr, loadV3 hb]
theorem put3_box {V : World} {r : Nat} {t : TypeId} {x0 x1 x2 : Value} (h : Box V r t #[x0, x1, x2]) (v0 v1 v2 : Value) : Box (((V.setCell ⟨r, 0, none⟩ v0).setCell ⟨r, 1, none⟩ v1).setCell ⟨r, 2, none⟩ v2) r t #[v0, v1, v2] := by
  have := ((h.set 0 v0).set 1 v1).set 2 v2
  simpa using this
theorem put3_below {a V : World} {r B : Nat} (h : Below B a V) (hr : B ≤ r) (v0 v1 v2 : Value) : Below B a (((V.setCell ⟨r, 0, none⟩ v0).setCell ⟨r, 1, none⟩ v1).setCell ⟨r, 2, none⟩ v2) :=
  ((h.setCell (p := ⟨r, 0, none⟩) hr _).setCell (p := ⟨r, 1, none⟩) hr _).setCell (p := ⟨r, 2, none⟩) hr _
/-- What is told of a number: the value, and whether it is one. -/
def NumV (t : ByteArray) (e : Ending) : Prop :=
  ∃ (z : Int), e = .returned (.tuple #[.agg #[.int .i64 1, .int .i64 z, .string ⟨#[]⟩], .bool (numB t).isSome]) ∧ ∀ m, numB t = some m → z = m
set_option maxRecDepth 100000 in
set_option maxHeartbeats 8000000 in
theorem c_rn (t : ByteArray) (w : World) (hs : t.size ≤ 65536) (hE : TabE w) (hP : TabP w) :
    Calls Tryz.prog 178 #[.string t] w fun e w' => NumV t e ∧ Below w.heap.size w w' := by
  obtain ⟨V0, hV0⟩ : ∃ Q, w.alloc (.cells #[.int .i64 0, .int .i64 0, .string ⟨#[]⟩] 31) = Q := ⟨_, rfl⟩
  have b0 : Below w.heap.size w V0 := by rw [← hV0]; exact (Below.refl _ _).alloc (Nat.le_refl _) _
  have X0 : Hid (Box V0 w.heap.size 31 #[.int .i64 0, .int .i64 0, .string ⟨#[]⟩]) := by unfold Hid; rw [← hV0]; exact Box.new _ _ _
  have C := c_rnt t V0 hs (hE.below b0) (hP.below b0)
  have B0 : Hid (Below w.heap.size w V0) := b0
  clear b0 hE hP
  go_enter Tryz.func178, Tryz.ntmps178
  go_wp2_with fail
  refine C.mono ?_
  rintro e w1 ⟨⟨z, b, rfl, hb, hz⟩, hb1⟩
  have X1 : Hid (Box w1 w.heap.size 31 #[.int .i64 0, .int .i64 0, .string ⟨#[]⟩]) := X0.out.belowS hb1
  have B1 : Hid (Below w.heap.size w w1) := B0.out.trans (hb1.mono B0.out.size)
  have HR : Hid ((b && inB z (-1000000000) 1000000000) = (numB t).isSome ∧ ∀ m, numB t = some m → z = m) := ⟨hb, hz⟩
  clear C hb1 hb hz hV0 X0 B0
  go_wp2_with fail
  obtain ⟨V1, hV1⟩ : ∃ Q, w1.alloc (.cells #[.int .i64 1, .int .i64 z, .string ⟨#[]⟩] 31) = Q := ⟨_, rfl⟩
  have b2 : Below w1.heap.size w1 V1 := by rw [← hV1]; exact (Below.refl _ _).alloc (Nat.le_refl _) _
  have X2 : Hid (Box V1 w.heap.size 31 #[.int .i64 0, .int .i64 0, .string ⟨#[]⟩]) := X1.out.belowS b2
  have Y2 : Hid (Box V1 w1.heap.size 31 #[.int .i64 1, .int .i64 z, .string ⟨#[]⟩]) := by unfold Hid; rw [← hV1]; exact Box.new _ _ _
  have B2 : Hid (Below w.heap.size w V1) := B1.out.trans (b2.mono B1.out.size)
  have PK : Hid (∀ W, Calls Tryz.prog 129 #[.agg #[.int .i64 1, .int .i64 z, .string ⟨#[]⟩]] W fun e w' => e = .returned (.bool (inB z (-1000000000) 1000000000)) ∧ Below W.heap.size W w') := fun W => by
    have := c_implOK 1 z ⟨#[]⟩ W (by decide)
    rwa [val1, emptyL, show (List.isEmpty ([] : List UInt8)) = true from rfl, Bool.and_true] at this
  have l1 := X1.out.lt
  have l2 := Y2.out.lt
  have l3 := X2.out.lt
  obtain ⟨p0, p1, p2⟩ := box3 X2.out
  obtain ⟨q0, q1, q2⟩ := box3 Y2.out
  have t0 := X2.out.thaw 0
  have t1 := X2.out.thaw 1
  have t2 := X2.out.thaw 2
  obtain ⟨y, hy⟩ : ∃ y, inB z (-1000000000) 1000000000 = y := ⟨_, rfl⟩
  rw [hy] at PK HR
  rw [hV1]
  clear b2 hy X1 hV1
  cases b with
  | false =>
    go_region_with fail
    all_goals
      go_wp2
      refine retV2 (v := .bool false) rfl rfl rfl rfl (put3_box X2.out _ _ _) ⟨⟨z, by rw [← HR.out.1]; rfl, HR.out.2⟩, put3_below B2.out.drew (Nat.le_refl _) _ _ _⟩
  | true =>
    go_region_held3 (fun x => x.cell? ⟨w1.heap.size, 0, none⟩ = some (.int .i64 1) ∧ x.cell? ⟨w1.heap.size, 1, none⟩ = some (.int .i64 z) ∧ x.cell? ⟨w1.heap.size, 2, none⟩ = some (.string ⟨#[]⟩)) (first | go_keep)
      (first | (go_at_call 129; refine (PK.out _).mono ?_; rintro e w4 ⟨rfl, hb4⟩
                have X4 : Hid (Box w4 w.heap.size 31 #[.int .i64 0, .int .i64 0, .string ⟨#[]⟩]) := (hb4.block w.heap.size l3).trans X2.out
                have B4 : Hid (Below w.heap.size w w4) := (below_drewN B2.out _).trans (hb4.mono B2.out.size)
                have z0 := far6 hb4 q0
                have z1 := far6 hb4 q1
                have z2 := far6 hb4 q2
                obtain ⟨s0, s1, s2⟩ := box3 X4.out
                have o0 := X4.out.thaw 0
                have o1 := X4.out.thaw 1
                have o2 := X4.out.thaw 2
                have sl : w.heap.size ≠ w1.heap.size := by omega
                clear hb4))
    all_goals
      go_wp2
      refine retV2 (v := .bool y) rfl rfl rfl rfl (put3_box X4.out _ _ _) ⟨⟨z, by rw [← HR.out.1]; rfl, HR.out.2⟩, put3_below B4.out (Nat.le_refl _) _ _ _⟩

end Go.Proofs.YtbpfpjmjmkpjoaaGreatDoor
namespace Go.Proofs.YtbpfpjmjmkpjoaaGreatDoor
open Go Go.RowKit
attribute [local go_sem ↓] Go.wp_at_zero Go.wp_at_succ

set_option linter.unusedVariables false
set_option linter.unusedSimpArgs false
/-- What is told of a token: the value that it is, or that it is none. -/
def ValV (t : ByteArray) (e : Ending) : Prop :=
  ∃ (k n : Int) (s : ByteArray), e = .returned (.tuple #[.agg #[.int .i64 k, .int .i64 n, .string s], .bool (valT t).isSome]) ∧ ∀ v, valT t = some v → v = ⟨k, n, s⟩
theorem q_list {t : ByteArray} (h : by8 t 0 = 39) (h2 : 2 ≤ t.size) (h3 : by8 t (t.size - 1) = 39) :
    Lib.hasPrefix t.data.toList [39] = true ∧ Lib.trimSuffix (Lib.trimPrefix t.data.toList [39]) [39] = (inQ t).data.toList ∧ (Lib.trimPrefix t.data.toList [39]).length = t.size - 1 := by
  have hl : t.data.toList.length = t.size := by rw [Array.length_toList]; rfl
  obtain ⟨l, hlist⟩ : ∃ l, t.data.toList = l := ⟨_, rfl⟩
  have hin : (inQ t).data.toList = (l.take (t.size - 1)).drop 1 := by
    unfold inQ
    rw [ByteArray.data_extract, Array.toList_extract, hlist]
    simp [List.extract, List.drop_take]
  rw [hin]
  unfold by8 at h h3
  rw [hlist] at h h3 hl ⊢
  cases l with
  | nil => simp at hl; omega
  | cons b r =>
    have hb : b = 39 := by
      have : (b.toNat : Int) = 39 := by simpa using h
      exact UInt8.toNat_inj.1 (by show b.toNat = 39; omega)
    subst hb
    have hp : Lib.hasPrefix (39 :: r) [39] = true := by simp [Lib.hasPrefix]
    have hr : r.length = t.size - 1 := by simp at hl; omega
    have ht : Lib.trimPrefix (39 :: r) [39] = r := by unfold Lib.trimPrefix; rw [if_pos hp]; rfl
    refine ⟨hp, ?_, by rw [ht, hr]⟩
    rw [ht]
    have hs : Lib.hasSuffix r [39] = true := by
      rcases List.eq_nil_or_concat r with rfl | ⟨r', c, rfl⟩
      · simp at hr; omega
      · have e : t.size - 1 = r'.length + 1 := by simp at hr; omega
        rw [e] at h3
        have hc : (c.toNat : Int) = 39 := by simpa using h3
        have hc2 : c = 39 := UInt8.toNat_inj.1 (by show c.toNat = 39; omega)
        subst hc2
        simp [Lib.hasSuffix, List.isSuffixOf_iff_suffix]
    unfold Lib.trimSuffix
    rw [if_pos hs, hr]
    show r.take (t.size - 1 - 1) = List.drop 1 (List.take (t.size - 1) (39 :: r))
    obtain ⟨m, hm⟩ : ∃ m, t.size - 1 = m + 1 := ⟨t.size - 2, by omega⟩
    rw [hm]
    simp

theorem no_q {t : ByteArray} (h : ¬ by8 t 0 = 39) : Lib.hasPrefix t.data.toList [39] = false := by
  unfold by8 at h
  cases hl : t.data.toList with
  | nil => rfl
  | cons b r =>
    rw [hl] at h
    cases hb : Lib.hasPrefix (b :: r) [39] with
    | false => rfl
    | true =>
      simp [Lib.hasPrefix] at hb
      subst hb
      exact absurd rfl h
set_option maxRecDepth 100000 in
set_option maxHeartbeats 8000000 in
theorem c_rv (t : ByteArray) (w : World) (ht : Tok t) (hE : TabE w) (hP : TabP w) :
    Calls Tryz.prog 177 #[.string t] w fun e w' => ValV t e ∧ Below w.heap.size w w' := by
  obtain ⟨V0, hV0⟩ : ∃ Q, w.alloc (.cells #[.int .i64 0, .int .i64 0, .string ⟨#[]⟩] 31) = Q := ⟨_, rfl⟩
  have b0 : Below w.heap.size w V0 := by rw [← hV0]; exact (Below.refl _ _).alloc (Nat.le_refl _) _
  have X0 : Hid (Box V0 w.heap.size 31 #[.int .i64 0, .int .i64 0, .string ⟨#[]⟩]) := by unfold Hid; rw [← hV0]; exact Box.new _ _ _
  have B0 : Hid (Below w.heap.size w V0) := b0
  have HTK : Hid (Tok t) := ht
  by_cases hn : t = wNull
  · subst hn
    have E : Hid (valT wNull = some ⟨0, 0, ⟨#[]⟩⟩) := rfl
    clear hE hP hV0 b0
    unfold wNull
    go_enter Tryz.func177, Tryz.ntmps177
    go_wp2
    refine retV2 (v := .bool true) rfl rfl rfl rfl (Box.new _ _ _) ⟨⟨0, 0, ⟨#[]⟩, by rw [show (valT ⟨#[110, 117, 108, 108]⟩) = some ⟨0, 0, ⟨#[]⟩⟩ from E.out]; rfl, fun v hv => by rw [show (valT ⟨#[110, 117, 108, 108]⟩) = some ⟨0, 0, ⟨#[]⟩⟩ from E.out] at hv; exact (Option.some.inj hv).symm⟩, (Below.refl _ _).alloc (Nat.le_refl _) _⟩
  · have qn : (t.toList == [110, 117, 108, 108]) = false := by
      rw [toList_data]
      simp only [beq_eq_false_iff_ne, ne_eq]
      intro e
      exact hn (ba_eq0 (Array.toList_inj.1 e))
    by_cases hq : by8 t 0 = 39
    · obtain ⟨s1, s2⟩ := ht.quote hq
      obtain ⟨g1, g2, g3⟩ := q_list hq s1 s2
      obtain ⟨u, hu⟩ : ∃ u : ByteArray, (⟨(Lib.trimPrefix t.data.toList [39]).toArray⟩ : ByteArray) = u := ⟨_, rfl⟩
      have us : u.size ≤ 65536 := by
        have h1 := ht.size
        rw [← hu]; show (Lib.trimPrefix t.data.toList [39]).toArray.size ≤ _
        simp only [List.size_toArray, g3]; omega
      have C1 : Hid (∀ W, Calls Tryz.prog 205 #[.string t, .string ⟨#[39]⟩] W fun e w' => e = .returned (.tuple #[.string u, .bool true]) ∧ w' = W) := fun W => by
        have := Any.strings_CutPrefix laysCutP t ⟨#[39]⟩ W
        rw [show (⟨#[39]⟩ : ByteArray).data.toList = [39] from rfl, g1, hu] at this
        exact this
      have C2 : Hid (∀ W, Calls Tryz.prog 206 #[.string u, .string ⟨#[39]⟩] W fun e w' => e = .returned (.string (inQ t)) ∧ w' = W) := fun W => by
        have := Any.strings_TrimSuffix laysTrimS u ⟨#[39]⟩ W (by omega)
        have e : u.data.toList = Lib.trimPrefix t.data.toList [39] := by rw [← hu]
        rw [show (⟨#[39]⟩ : ByteArray).data.toList = [39] from rfl, e, g2] at this
        have e2 : (⟨(inQ t).data.toList.toArray⟩ : ByteArray) = inQ t := ba_eq0 (by simp)
        rw [e2] at this
        exact this
      obtain ⟨s, hs⟩ : ∃ s, inQ t = s := ⟨_, rfl⟩
      rw [hs] at C2
      have ss : s.size ≤ maxLen := by
        rw [← hs]; unfold inQ; rw [ByteArray.size_extract]; have := ht.size; unfold maxLen; omega
      obtain ⟨y, hy⟩ : ∃ y, wordB s = y := ⟨_, rfl⟩
      have PK : Hid (∀ W, Calls Tryz.prog 129 #[.agg #[.int .i64 2, .int .i64 0, .string s]] W fun e w' => e = .returned (.bool y) ∧ Below W.heap.size W w') := fun W => by
        have := c_implOK 2 0 s W ss
        rwa [val2, hy, show ((0 : Int) == 0) = true from rfl, Bool.true_and] at this
      have E : Hid (valT t = if y then some ⟨2, 0, s⟩ else none) := by
        unfold Hid valT; rw [if_neg hn, if_pos hq, hs, hy]
      clear hu hs hy hn hq ht hE hP b0 g1 g2 g3 s1 s2
      have C1' := C1.out V0
      go_enter Tryz.func177, Tryz.ntmps177
      go_wp2_with fail
      refine C1'.mono ?_
      rintro e w1 ⟨rfl, rfl⟩
      have C2' := C2.out w1
      clear C1' C1 C2
      go_wp2_with fail
      refine C2'.mono ?_
      rintro e w2 ⟨rfl, rfl⟩
      clear C2' hV0
      go_wp2_with fail
      obtain ⟨V1, hV1⟩ : ∃ Q, w2.alloc (.cells #[.int .i64 2, .int .i64 0, .string s] 31) = Q := ⟨_, rfl⟩
      have b2 : Below w2.heap.size w2 V1 := by rw [← hV1]; exact (Below.refl _ _).alloc (Nat.le_refl _) _
      have X2 : Hid (Box V1 w.heap.size 31 #[.int .i64 0, .int .i64 0, .string ⟨#[]⟩]) := X0.out.belowS b2
      have Y2 : Hid (Box V1 w2.heap.size 31 #[.int .i64 2, .int .i64 0, .string s]) := by unfold Hid; rw [← hV1]; exact Box.new _ _ _
      have B2 : Hid (Below w.heap.size w V1) := B0.out.trans (b2.mono B0.out.size)
      have l1 := X0.out.lt
      have l2 := Y2.out.lt
      have l3 := X2.out.lt
      obtain ⟨p0, p1, p2⟩ := box3 X2.out
      obtain ⟨q0, q1, q2⟩ := box3 Y2.out
      have t0 := X2.out.thaw 0
      have t1 := X2.out.thaw 1
      have t2 := X2.out.thaw 2
      rw [hV1]
      clear b2 hV1 X0 B0
      go_region_held3 (fun x => x.cell? ⟨w2.heap.size, 0, none⟩ = some (.int .i64 2) ∧ x.cell? ⟨w2.heap.size, 1, none⟩ = some (.int .i64 0) ∧ x.cell? ⟨w2.heap.size, 2, none⟩ = some (.string s)) (first | go_keep)
        (first | (go_at_call 129; refine (PK.out _).mono ?_; rintro e w4 ⟨rfl, hb4⟩
                  have X4 : Hid (Box w4 w.heap.size 31 #[.int .i64 0, .int .i64 0, .string ⟨#[]⟩]) := (hb4.block w.heap.size l3).trans X2.out
                  have B4 : Hid (Below w.heap.size w w4) := (below_drewN B2.out _).trans (hb4.mono B2.out.size)
                  have z0 := far6 hb4 q0
                  have z1 := far6 hb4 q1
                  have z2 := far6 hb4 q2
                  obtain ⟨s0, s1, s2⟩ := box3 X4.out
                  have o0 := X4.out.thaw 0
                  have o1 := X4.out.thaw 1
                  have o2 := X4.out.thaw 2
                  have sl : w.heap.size ≠ w2.heap.size := by omega
                  clear hb4))
      all_goals
        go_wp2
        refine retV2 (v := .bool y) rfl rfl rfl rfl (put3_box X4.out _ _ _) ⟨⟨2, 0, s, by rw [E.out]; cases y <;> rfl, fun v hv => by rw [E.out] at hv; cases y <;> first | exact (Option.some.inj hv).symm | cases hv⟩, put3_below B4.out (Nat.le_refl _) _ _ _⟩
    · obtain ⟨u, hu⟩ : ∃ u : ByteArray, (⟨(Lib.trimPrefix t.data.toList [39]).toArray⟩ : ByteArray) = u := ⟨_, rfl⟩
      have C1 : Hid (∀ W, Calls Tryz.prog 205 #[.string t, .string ⟨#[39]⟩] W fun e w' => e = .returned (.tuple #[.string u, .bool false]) ∧ w' = W) := fun W => by
        have := Any.strings_CutPrefix laysCutP t ⟨#[39]⟩ W
        rw [show (⟨#[39]⟩ : ByteArray).data.toList = [39] from rfl, no_q hq, hu] at this
        exact this
      have C2 := c_rn t V0 ht.size (hE.below b0) (hP.below b0)
      have E : Hid (valT t = match numB t with | some n => some ⟨1, n, ⟨#[]⟩⟩ | none => none) := by
        unfold Hid valT; rw [if_neg hn, if_neg hq]; rfl
      have C1' := C1.out V0
      clear hu hn hq ht hE hP b0 C1
      go_enter Tryz.func177, Tryz.ntmps177
      go_wp2_with fail
      refine C1'.mono ?_
      rintro e w1 ⟨rfl, rfl⟩
      clear C1' hV0
      go_wp2_with fail
      refine C2.mono ?_
      rintro e w2 ⟨⟨z, rfl, hz⟩, hb2⟩
      have X2 : Hid (Box w2 w.heap.size 31 #[.int .i64 0, .int .i64 0, .string ⟨#[]⟩]) := X0.out.belowS hb2
      have B2 : Hid (Below w.heap.size w w2) := B0.out.trans (hb2.mono B0.out.size)
      have HZ : Hid (∀ m, numB t = some m → z = m) := hz
      obtain ⟨p0, p1, p2⟩ := box3 X2.out
      have t0 := X2.out.thaw 0
      have t1 := X2.out.thaw 1
      have t2 := X2.out.thaw 2
      obtain ⟨y, hy⟩ : ∃ y, (numB t).isSome = y := ⟨_, rfl⟩
      have HY : Hid ((numB t).isSome = y) := hy
      rw [hy]
      clear C2 hb2 hz X0 B0 hy
      go_wp2
      refine retV2 (v := .bool y) rfl rfl rfl rfl (put3_box X2.out _ _ _) ⟨⟨1, z, ⟨#[]⟩, ?_, ?_⟩, put3_below B2.out (Nat.le_refl _) _ _ _⟩
      · rw [E.out, ← HY.out]; cases numB t <;> rfl
      · intro v hv
        rw [E.out] at hv
        cases hm : numB t with
        | none => rw [hm] at hv; cases hv
        | some m => rw [hm] at hv; rw [HZ.out m hm]; exact (Option.some.inj hv).symm

end Go.Proofs.YtbpfpjmjmkpjoaaGreatDoor
namespace Go.Proofs.YtbpfpjmjmkpjoaaGreatDoor
open Go Go.RowKit
attribute [local go_sem ↓] Go.wp_at_zero Go.wp_at_succ

set_option linter.unusedVariables false
set_option linter.unusedSimpArgs false
theorem StI.up {g : Nat} {w w' : World} {T : List ByteArray} {n o : Nat} (h : StI g w T n o) (hb : Below (g + 1) w w') : StI g w' T n o := by
  obtain ⟨a, cap, h1, h2, hx, ht⟩ := h
  exact ⟨a, cap, h1, h2, (hb.block g (Nat.lt_succ_self g)).trans hx, ht.below (hb.mono (Nat.le_succ g))⟩
theorem StI.toks {g : Nat} {w : World} {T : List ByteArray} {n o : Nat} (h : StI g w T n o) : ∀ t ∈ T, Tok t := by
  obtain ⟨a, cap, h1, h2, hx, ht⟩ := h
  exact ht.1
theorem nxt_tok {T : List ByteArray} (h : ∀ t ∈ T, Tok t) : Tok (nxt T) := by
  cases T with
  | nil => exact ⟨by decide, (fun h => absurd h (by decide)), (fun h => absurd h (by decide))⟩
  | cons a r => exact h a (by simp)
def colI (t : ByteArray) : Int := match colOf t with
  | some k => (k : Int)
  | none => -1
theorem ne_list {a b : ByteArray} (h : ¬ a = b) : (b.data.toList == a.toList) = false := by
  rw [toList_data]
  simp only [beq_eq_false_iff_ne, ne_eq]
  exact fun e => h (ba_eq0 (Array.toList_inj.1 e)).symm
theorem ix0 (wx : World) : (Instr.index 91 (.agg #[.string ⟨#[105, 100]⟩, .string ⟨#[110]⟩, .string ⟨#[110, 97, 109, 101]⟩]) (.int .i64 0)).run Tryz.prog wx = .ok (.string ⟨#[105, 100]⟩) wx := by kernel_rfl
theorem ix1 (wx : World) : (Instr.index 91 (.agg #[.string ⟨#[105, 100]⟩, .string ⟨#[110]⟩, .string ⟨#[110, 97, 109, 101]⟩]) (.int .i64 1)).run Tryz.prog wx = .ok (.string ⟨#[110]⟩) wx := by kernel_rfl
theorem ix2 (wx : World) : (Instr.index 91 (.agg #[.string ⟨#[105, 100]⟩, .string ⟨#[110]⟩, .string ⟨#[110, 97, 109, 101]⟩]) (.int .i64 2)).run Tryz.prog wx = .ok (.string ⟨#[110, 97, 109, 101]⟩) wx := by kernel_rfl
set_option maxRecDepth 100000 in
set_option maxHeartbeats 8000000 in
theorem c_col (t : ByteArray) (w : World) (hT : TabC w) :
    Calls Tryz.prog 179 #[.string t] w fun e w' => e = .returned (.int .i64 (colI t)) ∧ w' = w := by
  obtain ⟨x0, x1, x2⟩ := hT
  have i0 := ix0
  have i1 := ix1
  have i2 := ix2
  by_cases h0 : t = clT 0
  · subst h0
    show Calls Tryz.prog 179 #[.string ⟨#[105, 100]⟩] w _
    have C : Hid (colI (clT 0) = 0) := show colI (clT 0) = 0 from by decide
    rw [C.out]
    go_enter Tryz.func179, Tryz.ntmps179
    go_wp2
    refine wp_loop_rounds 4 ?_
    rw [rounds_succ]; go_wp2
    go_ret
    exact ⟨rfl, rfl⟩
  have q0 : ([105, 100] == t.toList) = false := ne_list h0
  by_cases h1 : t = clT 1
  · subst h1
    show Calls Tryz.prog 179 #[.string ⟨#[110]⟩] w _
    have C : Hid (colI (clT 1) = 1) := show colI (clT 1) = 1 from by decide
    rw [C.out]
    clear h0 q0
    go_enter Tryz.func179, Tryz.ntmps179
    go_wp2
    refine wp_loop_rounds 4 ?_
    rw [rounds_succ]; go_wp2
    rw [rounds_succ]; go_wp2
    go_ret
    exact ⟨rfl, rfl⟩
  have q1 : ([110] == t.toList) = false := ne_list h1
  by_cases h2 : t = clT 2
  · subst h2
    show Calls Tryz.prog 179 #[.string ⟨#[110, 97, 109, 101]⟩] w _
    have C : Hid (colI (clT 2) = 2) := show colI (clT 2) = 2 from by decide
    rw [C.out]
    clear h0 q0
    clear h1 q1
    go_enter Tryz.func179, Tryz.ntmps179
    go_wp2
    refine wp_loop_rounds 4 ?_
    rw [rounds_succ]; go_wp2
    rw [rounds_succ]; go_wp2
    rw [rounds_succ]; go_wp2
    go_ret
    exact ⟨rfl, rfl⟩
  have q2 : ([110, 97, 109, 101] == t.toList) = false := ne_list h2
  have C : Hid (colI t = -1) := by unfold Hid colI colOf; rw [if_neg h0, if_neg h1, if_neg h2]
  rw [C.out]
  clear h0 h1 h2
  go_enter Tryz.func179, Tryz.ntmps179
  go_wp2
  refine wp_loop_rounds 4 ?_
  rw [rounds_succ]; go_wp2
  rw [rounds_succ]; go_wp2
  rw [rounds_succ]; go_wp2
  rw [rounds_succ]; go_wp2
  go_ret
  exact ⟨rfl, rfl⟩

/-- k tokens are taken off. -/
theorem take_k {g : Nat} {w : World} {T : List ByteArray} {n o b off cap N : Nat} (hb : Box w g 106 #[.slice (some ⟨b, off, none⟩) N cap, .int .i64 (n : Int), .int .i64 (o : Int)]) (ht : TkR g w (some ⟨b, off, none⟩) T) (hN : T.length = N) (k : Nat) (hk : k ≤ N) (h1 : N ≤ cap) (h2 : 0 ≤ cap) :
    StI g (w.setCell ⟨g, 0, none⟩ (.slice (if cap = k then some ⟨b, off, none⟩ else some ⟨b, off + k, none⟩) (N - k) (cap - k))) (T.drop k) n o := by
  have hl : (T.drop k).length = N - k := by rw [List.length_drop, hN]
  refine put0 hb (by rw [hl]; omega) (by omega) ?_ (by rw [hl])
  by_cases hc : cap = k
  · rw [if_pos hc]
    exact ⟨fun t h => ht.1 t (List.mem_of_mem_drop h), fun h => by omega⟩
  · rw [if_neg hc]; exact tk_drop ht k
set_option maxRecDepth 100000 in
set_option maxHeartbeats 8000000 in
theorem c_tcolN (g : Nat) (w : World) (T : List ByteArray) (n o : Nat) (h : StI g w T n o) (hT : TbG g w) (hc : colOf (nxt T) = none) :
    Calls Tryz.prog 148 #[.pointer (some ⟨g, 0, none⟩)] w fun e w' => e = .returned (.int .i64 (-1)) ∧ w' = w := by
  have C := c_next g w T n o h
  have C2 := c_col (nxt T) w hT.tabs.c
  rw [show colI (nxt T) = -1 by unfold colI; rw [hc]] at C2
  clear h hT hc
  go_enter Tryz.func148, Tryz.ntmps148
  go_wp2_with fail
  refine C.mono ?_
  rintro e w1 ⟨rfl, rfl⟩
  clear C
  go_wp2_with fail
  refine C2.mono ?_
  rintro e w2 ⟨rfl, rfl⟩
  go_wp2
  go_ret
  exact ⟨rfl, rfl⟩
set_option maxRecDepth 100000 in
set_option maxHeartbeats 8000000 in
theorem c_tcolY (g : Nat) (w : World) (T : List ByteArray) (n o k : Nat) (h : StI g w T n o) (hT : TbG g w) (hc : colOf (nxt T) = some k) :
    Calls Tryz.prog 148 #[.pointer (some ⟨g, 0, none⟩)] w fun e w' => e = .returned (.int .i64 (k : Int)) ∧ StI g w' (T.drop 1) n o ∧ Below g w w' := by
  have hl := col_pos hc
  have C := c_next g w T n o h
  have C2 := c_col (nxt T) w hT.tabs.c
  rw [show colI (nxt T) = (k : Int) by unfold colI; rw [hc]] at C2
  obtain ⟨a, cap, h1, h2, hb, ht⟩ := h
  obtain ⟨b, off, rfl, hg, hcell⟩ := nxt_cell ht (by omega)
  obtain ⟨N, hN⟩ : ∃ N, T.length = N := ⟨_, rfl⟩
  rw [hN] at hb h1 hl
  obtain ⟨x0, x1, x2⟩ := box3 hb
  have lg : g < w.heap.size := World.block_lt_of_cell? w ⟨g, 0, none⟩ x0
  have t0 := hb.thaw 0
  have R : Hid (StI g (w.setCell ⟨g, 0, none⟩ (.slice (if cap = 1 then some ⟨b, off, none⟩ else some ⟨b, off + 1, none⟩) (N - 1) (cap - 1))) (T.drop 1) n o) := take_k hb ht hN 1 hl h1 h2
  have e1 : (0 : Int) ≤ 1 := by omega
  have e2 : (1 : Int) ≤ (N : Int) := by omega
  have e3 : (N : Int) ≤ (cap : Int) := by omega
  have e4 : (0 : Int) ≤ (k : Int) := by omega
  clear hb ht hN hc hcell hT
  go_enter Tryz.func148, Tryz.ntmps148
  go_wp2_with fail
  refine C.mono ?_
  rintro e w1 ⟨rfl, rfl⟩
  clear C
  go_wp2_with fail
  refine C2.mono ?_
  rintro e w2 ⟨rfl, rfl⟩
  clear C2
  by_cases hc1 : cap = 1
  · have R2 : Hid (StI g (w2.setCell ⟨g, 0, none⟩ (.slice (some ⟨b, off, none⟩) 0 0)) (T.drop 1) n o) := by
      have := R.out; rw [if_pos hc1, show N - 1 = 0 by omega, show cap - 1 = 0 by omega] at this; exact this
    subst hc1
    clear R
    go_wp2
    go_ret
    exact ⟨rfl, R2.out, (Below.refl g w2).setCell (p := ⟨g, 0, none⟩) (Nat.le_refl g) _⟩
  · have R2 : Hid (StI g (w2.setCell ⟨g, 0, none⟩ (.slice (some ⟨b, off + 1, none⟩) (N - 1) (cap - 1))) (T.drop 1) n o) := by
      have := R.out; rw [if_neg hc1] at this; exact this
    clear R
    go_wp2
    go_ret
    exact ⟨rfl, R2.out, (Below.refl g w2).setCell (p := ⟨g, 0, none⟩) (Nat.le_refl g) _⟩

end Go.Proofs.YtbpfpjmjmkpjoaaGreatDoor
