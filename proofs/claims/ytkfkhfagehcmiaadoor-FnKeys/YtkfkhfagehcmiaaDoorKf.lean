/-
  Keys that are read: the first value of a row of bytes, as both read it; the walk of the program's own.
-/
import Derived.Test.YtkfkhfagehcmiaaDoorKr
import Derived.Test.YtkfkhfagehcmiaaDoorBx
namespace Go.Proofs.YtkfkhfagehcmiaaDoor
open Go Go.RowKit
attribute [local go_sem ↓] Go.wp_at_zero Go.wp_at_succ


/-- Where the first 0 stands. -/
def zi : List Int → Nat
  | [] => 0
  | z :: l => if z = 0 then 0 else zi l + 1
theorem zi_le : ∀ l : List Int, zi l ≤ l.length
  | [] => Nat.le_refl _
  | z :: l => by
    have := zi_le l
    unfold zi
    split <;> simp <;> omega
theorem zi_index : ∀ (l : List Int), (∀ z ∈ l, 0 ≤ z ∧ z < 256) → Lib.indexByte (Lib.bytesOf l) 0 = if zi l = l.length then -1 else (zi l : Int)
  | [], _ => rfl
  | z :: l, h => by
    have ih := zi_index l (fun x hx => h x (List.mem_cons_of_mem _ hx))
    have hz := h z (List.mem_cons_self ..)
    have hle := zi_le l
    show (if z.toNat.toUInt8 == 0 then (0 : Int) else if Lib.indexByte (Lib.bytesOf l) 0 == -1 then -1 else Lib.indexByte (Lib.bytesOf l) 0 + 1) = _
    by_cases h0 : z = 0
    · subst h0
      simp [zi]
    · have hb : (z.toNat.toUInt8 == 0) = false := by
        rw [beq_eq_false_iff_ne]
        intro e
        have := congrArg UInt8.toNat e
        simp at this
        omega
      rw [hb, ih, zi, if_neg h0, if_neg (by simp)]
      by_cases hq : zi l = l.length
      · rw [if_pos hq, if_pos (show zi l + 1 = (z :: l).length by simp; omega)]; rfl
      · rw [if_neg hq, if_neg (show ¬ zi l + 1 = (z :: l).length by simp; omega)]
        have : ((zi l : Int) == -1) = false := by rw [beq_eq_false_iff_ne]; omega
        rw [this]
        simp
def chk (v : VV) (s : Nat) : Option (VV × Nat) := if valB v.1 v.2.1 v.2.2 then some (v, s) else none
/-- The first value of the bytes z :: r, and how many bytes it takes. -/
def pv (z : Int) (r : List Int) : Option (VV × Nat) :=
  if z = 2 then (if r.length < 4 then none else chk (1, ofL (r.take 4) - 1000000000, ⟨#[]⟩) 5)
  else if z = 3 then (if zi r = r.length then none else chk (2, 0, strOfNums (r.take (zi r))) (zi r + 2))
  else chk (z - 1, 0, ⟨#[]⟩) 1
theorem pv2 {r : List Int} (h : r.length < 4) : pv 2 r = none := by unfold pv; rw [if_pos rfl, if_pos h]
theorem pv2' {r : List Int} (h : ¬ r.length < 4) : pv 2 r = chk (1, ofL (r.take 4) - 1000000000, ⟨#[]⟩) 5 := by unfold pv; rw [if_pos rfl, if_neg h]
theorem pv3 {r : List Int} (h : zi r = r.length) : pv 3 r = none := by unfold pv; rw [if_neg (by omega), if_pos rfl, if_pos h]
theorem pv3' {r : List Int} (h : ¬ zi r = r.length) : pv 3 r = chk (2, 0, strOfNums (r.take (zi r))) (zi r + 2) := by unfold pv; rw [if_neg (by omega), if_pos rfl, if_neg h]
theorem pvx {z : Int} {r : List Int} (h2 : ¬ z = 2) (h3 : ¬ z = 3) : pv z r = chk (z - 1, 0, ⟨#[]⟩) 1 := by unfold pv; rw [if_neg h2, if_neg h3]
theorem chk_no {v : VV} {s : Nat} (h : valB v.1 v.2.1 v.2.2 = false) : chk v s = none := by unfold chk; rw [h]; rfl
theorem chk_yes {v : VV} {s : Nat} (h : valB v.1 v.2.1 v.2.2 = true) : chk v s = some (v, s) := by unfold chk; rw [h]; rfl
theorem pv_size {z : Int} {r : List Int} {v : VV} {s : Nat} (h : pv z r = some (v, s)) : 1 ≤ s ∧ s ≤ r.length + 1 := by
  have hz := zi_le r
  unfold pv at h
  split at h
  · split at h
    · cases h
    · unfold chk at h
      split at h
      · simp at h; omega
      · cases h
  · split at h
    · split at h
      · cases h
      · unfold chk at h
        split at h
        · simp at h; omega
        · cases h
    · unfold chk at h
      split at h
      · simp at h; omega
      · cases h
def fvV (z : Int) (r : List Int) : VV := match pv z r with
  | none => dV
  | some p => p.1
def fvS (z : Int) (r : List Int) : Nat := match pv z r with
  | none => 0
  | some p => p.2
def AnsV (w : World) (z : Int) (r : List Int) (e : Ending) (w' : World) : Prop :=
  e = .returned (.tuple #[.agg #[.int .i64 (fvV z r).1, .int .i64 (fvV z r).2.1, .string (fvV z r).2.2], .int .i64 (fvS z r : Nat)]) ∧ Below w.heap.size w w'
theorem ansV_none {w w' : World} {z : Int} {r : List Int} (h : pv z r = none) (hb : Below w.heap.size w w') : AnsV w z r (.returned (.tuple #[.agg #[.int .i64 0, .int .i64 0, .string ⟨#[]⟩], .int .i64 0])) w' := by
  unfold AnsV fvV fvS
  rw [h]
  exact ⟨rfl, hb⟩
theorem ansV_some {w w' : World} {z : Int} {r : List Int} {k n c : Int} {t : ByteArray} {s : Nat} (h : pv z r = some ((k, n, t), s)) (hc : c = (s : Int)) (hb : Below w.heap.size w w') : AnsV w z r (.returned (.tuple #[.agg #[.int .i64 k, .int .i64 n, .string t], .int .i64 c])) w' := by
  unfold AnsV fvV fvS
  rw [h, hc]
  exact ⟨rfl, hb⟩
theorem loadV {w : World} {r : Nat} {v0 v1 v2 : Value} (hb : Box w r 27 #[v0, v1, v2]) : (loadVar 27 ⟨r, 0, none⟩).run Tryd.prog w = .ok (.agg #[v0, v1, v2]) w := by
  have e0 : w.cell? ⟨r, 0, none⟩ = some v0 := hb.cell 0
  have e1 : w.cell? ⟨r, 1, none⟩ = some v1 := hb.cell 1
  have e2 : w.cell? ⟨r, 2, none⟩ = some v2 := hb.cell 2
  simp [go_sem, e0, e1, e2]
theorem retV2 {fn : Func} {p u : Tmp} (h : fn.results = #[.cell p 27, .tmp u]) {R : Ending → World → Prop} {a : Act} {w : World} {r : Nat} {v0 v1 v2 v : Value} (hp : a.tmps.getD p undef = .pointer (some ⟨r, 0, none⟩)) (hu : a.tmps.getD u undef = v) (hd : a.defers = []) (hb : Box w r 27 #[v0, v1, v2]) (hR : R (.returned (.tuple #[.agg #[v0, v1, v2], v])) w) : bodyPost Tryd.prog fn R .ret a w := by
  refine bodyPost_ret ?_ hd hR
  have hp' : a.tmps[p]?.getD undef = .pointer (some ⟨r, 0, none⟩) := by simpa using hp
  have hu' : a.tmps[u]?.getD undef = v := by simpa using hu
  simp only [results, h]
  simp [Result.andThen, hp', hu', asAddr, loadV hb]
theorem put3_box {V : World} {r : Nat} {t : TypeId} {x0 x1 x2 : Value} (h : Box V r t #[x0, x1, x2]) (v0 v1 v2 : Value) : Box (((V.setCell ⟨r, 0, none⟩ v0).setCell ⟨r, 1, none⟩ v1).setCell ⟨r, 2, none⟩ v2) r t #[v0, v1, v2] := by
  have := ((h.set 0 v0).set 1 v1).set 2 v2
  simpa using this
theorem put3_below {B : Nat} {w V : World} (hb : Below B w V) {r : Nat} (hr : B ≤ r) (v0 v1 v2 : Value) : Below B w (((V.setCell ⟨r, 0, none⟩ v0).setCell ⟨r, 1, none⟩ v1).setCell ⟨r, 2, none⟩ v2) :=
  ((hb.setCell hr _).setCell hr _).setCell hr _
theorem box3 {w : World} {g : Nat} {t : TypeId} {v0 v1 v2 : Value} (h : Box w g t #[v0, v1, v2]) : w.cell? ⟨g, 0, none⟩ = some v0 ∧ w.cell? ⟨g, 1, none⟩ = some v1 ∧ w.cell? ⟨g, 2, none⟩ = some v2 ∧ w.frozen? ⟨g, 0, none⟩ = false ∧ w.frozen? ⟨g, 1, none⟩ = false ∧ w.frozen? ⟨g, 2, none⟩ = false :=
  ⟨h.cell 0, h.cell 1, h.cell 2, h.thaw 0, h.thaw 1, h.thaw 2⟩
theorem bcell {W w1 : World} (hb : Below W.heap.size W w1) : (∀ b o, b < W.heap.size → w1.cell? ⟨b, o, none⟩ = W.cell? ⟨b, o, none⟩) ∧ (∀ b o, b < W.heap.size → w1.frozen? ⟨b, o, none⟩ = W.frozen? ⟨b, o, none⟩) :=
  ⟨fun b o h => hb.cell (p := ⟨b, o, none⟩) h, fun b o h => hb.frozen (p := ⟨b, o, none⟩) h⟩
set_option maxRecDepth 100000 in
set_option maxHeartbeats 2000000 in
theorem c_firstx (b off n cap : Nat) (z : Int) (r : List Int) (w : World) (hbl : b < w.heap.size) (hc0 : w.cell? ⟨b, off, none⟩ = some (.int .u8 z)) (hn0 : 0 < n) (hz : 0 ≤ z ∧ z < 256) (h2 : ¬ z = 2) (h3 : ¬ z = 3) :
    Calls Tryd.prog 25 #[.slice (some ⟨b, off, none⟩) n cap] w (AnsV w z r) := by
  have A := c_implOK (z - 1) 0 ⟨#[]⟩
  have g2 : (0 : Int) < (n : Int) := by omega
  have e1 : (z - 1 == 1) = false := by rw [beq_eq_false_iff_ne]; omega
  have e2 : (z - 1 == 2) = false := by rw [beq_eq_false_iff_ne]; omega
  have hp := pvx (r := r) h2 h3
  cases hv : valB (z - 1) 0 ⟨#[]⟩
  · rw [chk_no hv] at hp
    rw [hv] at A
    have HP : Hid (pv z r = none) := hp
    clear hp hv h2 h3
    go_enter Tryd.func25, Tryd.ntmps25
    go_wp2_with fail
    refine (A _ (by decide)).mono ?_
    rintro e w1 ⟨rfl, hb1⟩
    have hq1 : Below w.heap.size w w1 := (((Below.refl w.heap.size w).alloc (Nat.le_refl _) _).alloc (by simp) _).trans (hb1.mono (by simp; omega))
    obtain ⟨hc1, hf1⟩ := bcell hb1
    have sw : w.heap.size + 2 ≤ w1.heap.size := by have := hb1.size; simp at this; omega
    have hbx : Box w1 w.heap.size 27 #[.int .i64 0, .int .i64 0, .string ⟨#[]⟩] := (((Box.new w _ _).alloc _).belowS hb1)
    clear A hb1
    go_wp2
    refine retV2 (v := .int .i64 0) rfl rfl rfl rfl (put3_box hbx _ _ _) ?_
    exact (ansV_none HP.out (put3_below hq1 (Nat.le_refl _) _ _ _))
  · rw [chk_yes hv] at hp
    rw [hv] at A
    have HP : Hid (pv z r = some ((z - 1, 0, ⟨#[]⟩), 1)) := hp
    clear hp hv h2 h3
    go_enter Tryd.func25, Tryd.ntmps25
    go_wp2_with fail
    refine (A _ (by decide)).mono ?_
    rintro e w1 ⟨rfl, hb1⟩
    have hq1 : Below w.heap.size w w1 := (((Below.refl w.heap.size w).alloc (Nat.le_refl _) _).alloc (by simp) _).trans (hb1.mono (by simp; omega))
    obtain ⟨hc1, hf1⟩ := bcell hb1
    have sw : w.heap.size + 2 ≤ w1.heap.size := by have := hb1.size; simp at this; omega
    have hbx : Box w1 w.heap.size 27 #[.int .i64 0, .int .i64 0, .string ⟨#[]⟩] := (((Box.new w _ _).alloc _).belowS hb1)
    clear A hb1
    go_wp2
    refine retV2 (v := .int .i64 1) rfl rfl rfl rfl (put3_box hbx _ _ _) ?_
    exact (ansV_some HP.out rfl (put3_below hq1 (Nat.le_refl _) _ _ _))

set_option maxRecDepth 100000 in
set_option maxHeartbeats 2000000 in
theorem c_first2lo (b off n cap : Nat) (r : List Int) (w : World) (hbl : b < w.heap.size) (hc0 : w.cell? ⟨b, off, none⟩ = some (.int .u8 2)) (hn0 : 0 < n) (hl : r.length + 1 = n) (h5 : n < 5) :
    Calls Tryd.prog 25 #[.slice (some ⟨b, off, none⟩) n cap] w (AnsV w 2 r) := by
  have g2 : (0 : Int) < (n : Int) := by omega
  have g5 : (n : Int) < 5 := by omega
  have HP : Hid (pv 2 r = none) := pv2 (by omega)
  clear h5 hl
  go_enter Tryd.func25, Tryd.ntmps25
  go_wp2
  refine retV2 (v := .int .i64 0) rfl rfl rfl rfl ((Box.new w _ _).alloc _) ?_
  exact ansV_none HP.out (((Below.refl w.heap.size w).alloc (Nat.le_refl _) _).alloc (by simp) _)
set_option maxRecDepth 100000 in
set_option maxHeartbeats 2000000 in
theorem c_first2 (b off n cap : Nat) (r : List Int) (w : World) (hr : RdV w (some ⟨b, off, none⟩) n (((2 : Int) :: r).map (Value.int .u8))) (hz : ∀ z ∈ r, 0 ≤ z ∧ z < 256) (hcap : n ≤ cap) (hcm : cap ≤ 9223372036854775807) (h5 : ¬ n < 5) :
    Calls Tryd.prog 25 #[.slice (some ⟨b, off, none⟩) n cap] w (AnsV w 2 r) := by
  have hl : r.length + 1 = n := by simpa using hr.1
  obtain ⟨b', off', e, hbl, hc⟩ := hr.2 (by omega)
  cases e
  have hc' : ∀ i, i < r.length → w.cell? ⟨b, off + 1 + i, none⟩ = some (.int .u8 (r.getD i 0)) := fun i hi => by
    rw [Nat.add_assoc, hc (1 + i) (by omega), Nat.add_comm 1 i, List.map_cons, List.getElem?_cons_succ]
    exact map_get _ _ _ _ (by omega)
  have hc0 : w.cell? ⟨b, off, none⟩ = some (.int .u8 2) := by have := hc 0 (by omega); simpa using this
  have hb' : ∀ i, i < r.length → 0 ≤ r.getD i 0 ∧ r.getD i 0 < 256 := fun i hi => hz _ (by rw [List.getD_eq_getElem?_getD, List.getElem?_eq_getElem hi]; exact List.getElem_mem _)
  obtain ⟨z1, h1⟩ : ∃ z, z = r.getD 0 0 := ⟨_, rfl⟩
  obtain ⟨z2, h2⟩ : ∃ z, z = r.getD 1 0 := ⟨_, rfl⟩
  obtain ⟨z3, h3⟩ : ∃ z, z = r.getD 2 0 := ⟨_, rfl⟩
  obtain ⟨z4, h4⟩ : ∃ z, z = r.getD 3 0 := ⟨_, rfl⟩
  have c1 := hc' 0 (by omega)
  have c2 := hc' 1 (by omega)
  have c3 := hc' 2 (by omega)
  have c4 := hc' 3 (by omega)
  have B0 := c_number z1 z2 z3 z4
  have B := fun w => B0 w (h1 ▸ hb' 0 (by omega)) (h2 ▸ hb' 1 (by omega)) (h3 ▸ hb' 2 (by omega)) (h4 ▸ hb' 3 (by omega))
  rw [← h1] at c1
  rw [← h2] at c2
  rw [← h3] at c3
  rw [← h4] at c4
  rw [Nat.add_zero] at c1
  have ht : r.take 4 = [z1, z2, z3, z4] := by
    subst h1 h2 h3 h4
    match r, hl with
    | [], hl => simp at hl; omega
    | [_], hl => simp at hl; omega
    | [_, _], hl => simp at hl; omega
    | [_, _, _], hl => simp at hl; omega
    | _ :: _ :: _ :: _ :: _, _ => rfl
  obtain ⟨N, hN⟩ : ∃ N, N = z1 * 16777216 + z2 * 65536 + z3 * 256 + z4 - 1000000000 := ⟨_, rfl⟩
  rw [← hN] at B
  have hp : pv 2 r = chk (1, N, ⟨#[]⟩) 5 := by
    rw [pv2' (by omega), ht, hN]
    congr 2
    simp [ofL]
    omega
  have A := c_implOK 1 N ⟨#[]⟩
  have harr : ∀ W : World, (Instr.arrayAt 60 (.slice (some ⟨b, off + 1, none⟩) 4 (cap - 1))).run Tryd.prog W = .ok (.pointer (some ⟨b, off + 1, none⟩)) W := fun W => run_arrayAt W 60 5 4 _ 4 (cap - 1) Tryd.underlying60 (Nat.le_refl _)
  have g2 : (0 : Int) < (n : Int) := by omega
  have g5 : (5 : Int) ≤ (n : Int) := by omega
  have g6 : (5 : Int) ≤ (cap : Int) := by omega
  clear hc hc' hb' hz hr ht h1 h2 h3 h4 hN B0 hl h5
  cases hv : valB 1 N ⟨#[]⟩
  · have HP : Hid (pv 2 r = none) := by rw [chk_no hv] at hp; exact hp
    rw [hv] at A
    clear hp hv
    go_enter Tryd.func25, Tryd.ntmps25
    go_wp2_with fail
    refine (B _).mono ?_
    rintro e w1 ⟨rfl, hb1⟩
    have hq1 : Below w.heap.size w w1 := (((Below.refl w.heap.size w).alloc (Nat.le_refl _) _).alloc (by simp) _).trans (hb1.mono (by simp; omega))
    have hR1 : Box w1 w.heap.size 27 #[.int .i64 0, .int .i64 0, .string ⟨#[]⟩] := (((Box.new w _ _).alloc _).belowS hb1)
    have hV1 : Box w1 (w.heap.size + 1) 27 #[.int .i64 1, .int .i64 0, .string ⟨#[]⟩] := ((Box.new2 w _ _ _).belowS hb1)
    have HR1 : Hid (Box w1 w.heap.size 27 #[.int .i64 0, .int .i64 0, .string ⟨#[]⟩]) := hR1
    have HV1 : Hid (Box w1 (w.heap.size + 1) 27 #[.int .i64 1, .int .i64 0, .string ⟨#[]⟩]) := hV1
    obtain ⟨x0, x1, x2, f0, f1, f2⟩ := box3 hV1
    clear hb1 B hR1 hV1 c1 c2 c3 c4 hc0 harr
    go_wp2_with fail
    refine (A _ (by decide)).mono ?_
    rintro e w2 ⟨rfl, hb2⟩
    have hq2 : Below w.heap.size w w2 := (hq1.setCell (by simp) _).trans (hb2.mono (by have := hq1.size; simpa using this))
    have hR2 : Box w2 w.heap.size 27 #[.int .i64 0, .int .i64 0, .string ⟨#[]⟩] := (HR1.out.setOther _ _ (by simp)).belowS hb2
    have hV2 : Box w2 (w.heap.size + 1) 27 #[.int .i64 1, .int .i64 N, .string ⟨#[]⟩] := (HV1.out.set 1 _).belowS hb2
    have HR2 : Hid (Box w2 w.heap.size 27 #[.int .i64 0, .int .i64 0, .string ⟨#[]⟩]) := hR2
    obtain ⟨y0, y1, y2, k0, k1, k2⟩ := box3 hV2
    obtain ⟨u0, u1, u2, l0, l1, l2⟩ := box3 hR2
    clear A hb2 hV2 hR2 HR1 HV1 x0 x1 x2 f0 f1 f2
    go_wp2
    refine retV2 (v := .int .i64 0) rfl rfl rfl rfl (put3_box HR2.out _ _ _) ?_
    exact ansV_none HP.out (put3_below hq2 (Nat.le_refl _) _ _ _)
  · have HP : Hid (pv 2 r = some ((1, N, ⟨#[]⟩), 5)) := by rw [chk_yes hv] at hp; exact hp
    rw [hv] at A
    clear hp hv
    go_enter Tryd.func25, Tryd.ntmps25
    go_wp2_with fail
    refine (B _).mono ?_
    rintro e w1 ⟨rfl, hb1⟩
    have hq1 : Below w.heap.size w w1 := (((Below.refl w.heap.size w).alloc (Nat.le_refl _) _).alloc (by simp) _).trans (hb1.mono (by simp; omega))
    have hR1 : Box w1 w.heap.size 27 #[.int .i64 0, .int .i64 0, .string ⟨#[]⟩] := (((Box.new w _ _).alloc _).belowS hb1)
    have hV1 : Box w1 (w.heap.size + 1) 27 #[.int .i64 1, .int .i64 0, .string ⟨#[]⟩] := ((Box.new2 w _ _ _).belowS hb1)
    have HR1 : Hid (Box w1 w.heap.size 27 #[.int .i64 0, .int .i64 0, .string ⟨#[]⟩]) := hR1
    have HV1 : Hid (Box w1 (w.heap.size + 1) 27 #[.int .i64 1, .int .i64 0, .string ⟨#[]⟩]) := hV1
    obtain ⟨x0, x1, x2, f0, f1, f2⟩ := box3 hV1
    clear hb1 B hR1 hV1 c1 c2 c3 c4 hc0 harr
    go_wp2_with fail
    refine (A _ (by decide)).mono ?_
    rintro e w2 ⟨rfl, hb2⟩
    have hq2 : Below w.heap.size w w2 := (hq1.setCell (by simp) _).trans (hb2.mono (by have := hq1.size; simpa using this))
    have hR2 : Box w2 w.heap.size 27 #[.int .i64 0, .int .i64 0, .string ⟨#[]⟩] := (HR1.out.setOther _ _ (by simp)).belowS hb2
    have hV2 : Box w2 (w.heap.size + 1) 27 #[.int .i64 1, .int .i64 N, .string ⟨#[]⟩] := (HV1.out.set 1 _).belowS hb2
    have HR2 : Hid (Box w2 w.heap.size 27 #[.int .i64 0, .int .i64 0, .string ⟨#[]⟩]) := hR2
    obtain ⟨y0, y1, y2, k0, k1, k2⟩ := box3 hV2
    obtain ⟨u0, u1, u2, l0, l1, l2⟩ := box3 hR2
    clear A hb2 hV2 hR2 HR1 HV1 x0 x1 x2 f0 f1 f2
    go_wp2
    refine retV2 (v := .int .i64 5) rfl rfl rfl rfl (put3_box HR2.out _ _ _) ?_
    exact ansV_some HP.out rfl (put3_below hq2 (Nat.le_refl _) _ _ _)

end Go.Proofs.YtkfkhfagehcmiaaDoor
