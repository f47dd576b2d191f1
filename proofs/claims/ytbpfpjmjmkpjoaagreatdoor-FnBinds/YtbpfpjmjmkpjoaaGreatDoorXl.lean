/-
  partOf, and ExprOK of both sides.
-/
import Derived.Test.YtbpfpjmjmkpjoaaGreatDoorXk2
import Derived.Test.YtbpfpjmjmkpjoaaGreatDoorXi
namespace Go.Proofs.YtbpfpjmjmkpjoaaGreatDoor
open Go Go.RowKit
set_option linter.unusedVariables false
set_option linter.unusedSimpArgs false

theorem c_dbin (op : Int) (l r : PT) (hl : DepC l) (hr : DepC r) (dl : l.dep ≤ 1048576) (dr : r.dep ≤ 1048576) : DepC (.bin op l r) := by
  cases l with
  | con k1 n1 t1 =>
    cases r with
    | con k2 n2 t2 => exact c_dbin_concon op k1 n1 t1 k2 n2 t2 hl hr dl dr
    | col c2 => exact c_dbin_concol op k1 n1 t1 c2 hl hr dl dr
    | una o2 p2 => exact c_dbin_conuna op k1 n1 t1 o2 p2 hl hr dl dr
    | bin o2 p2 u2 => exact c_dbin_conbin op k1 n1 t1 o2 p2 u2 hl hr dl dr
  | col c1 =>
    cases r with
    | con k2 n2 t2 => exact c_dbin_colcon op c1 k2 n2 t2 hl hr dl dr
    | col c2 => exact c_dbin_colcol op c1 c2 hl hr dl dr
    | una o2 p2 => exact c_dbin_coluna op c1 o2 p2 hl hr dl dr
    | bin o2 p2 u2 => exact c_dbin_colbin op c1 o2 p2 u2 hl hr dl dr
  | una o1 p1 =>
    cases r with
    | con k2 n2 t2 => exact c_dbin_unacon op o1 p1 k2 n2 t2 hl hr dl dr
    | col c2 => exact c_dbin_unacol op o1 p1 c2 hl hr dl dr
    | una o2 p2 => exact c_dbin_unauna op o1 p1 o2 p2 hl hr dl dr
    | bin o2 p2 u2 => exact c_dbin_unabin op o1 p1 o2 p2 u2 hl hr dl dr
  | bin o1 p1 u1 =>
    cases r with
    | con k2 n2 t2 => exact c_dbin_bincon op o1 p1 u1 k2 n2 t2 hl hr dl dr
    | col c2 => exact c_dbin_bincol op o1 p1 u1 c2 hl hr dl dr
    | una o2 p2 => exact c_dbin_binuna op o1 p1 u1 o2 p2 hl hr dl dr
    | bin o2 p2 u2 => exact c_dbin_binbin op o1 p1 u1 o2 p2 u2 hl hr dl dr
theorem c_dep : ∀ p : PT, p.dep ≤ 1048576 → DepC p
  | .con k n t, _ => fun w => c_dcon k n t w
  | .col c, _ => fun w => c_dcol c w
  | .una op p, h => c_duna op p (c_dep p (by have : (PT.una op p).dep = p.dep + 1 := rfl; omega)) (by have : (PT.una op p).dep = p.dep + 1 := rfl; omega)
  | .bin op l r, h => c_dbin op l r (c_dep l (by have : (PT.bin op l r).dep = max l.dep r.dep + 1 := rfl; omega)) (c_dep r (by have : (PT.bin op l r).dep = max l.dep r.dep + 1 := rfl; omega)) (by have : (PT.bin op l r).dep = max l.dep r.dep + 1 := rfl; omega) (by have : (PT.bin op l r).dep = max l.dep r.dep + 1 := rfl; omega)
/-- All of an expression, if it is right. -/
def topX (L : List EN) (n : Nat) : Option PT :=
  if 40 < n then none else match pF L n n with | some (p, 0) => (if 12 < p.dep then none else some p) | _ => none
def encT : Option PT → Value
  | none => .nilIface
  | some p => p.enc
def okX (L : List EN) (n : Nat) : Bool := inB (n : Int) 1 40 && ((wF L n n).2.2 && ((wF L n n).1 == 0 && decide ((wF L n n).2.1 ≤ 12)))
theorem top_ok (L : List EN) (n : Nat) : (topX L n).isSome = okX L n := by
  unfold topX okX
  have h := agree L n n
  by_cases h1 : 40 < n
  · rw [if_pos h1, show inB (n : Int) 1 40 = false by unfold inB; simp; omega]; rfl
  rw [if_neg h1]
  cases n with
  | zero => simp [pF, wF, inB]
  | succ m =>
    rw [show inB ((m + 1 : Nat) : Int) 1 40 = true by unfold inB; simp; omega]
    cases e : pF L (m + 1) (m + 1) with
    | none => rw [e] at h; have h' : (wF L (m + 1) (m + 1)).2.2 = false := h; rw [h']; rfl
    | some q =>
      obtain ⟨p, f⟩ := q
      rw [e] at h
      have h' : wF L (m + 1) (m + 1) = (f, p.dep, true) := h
      rw [h']
      cases f with
      | zero =>
        by_cases h2 : 12 < p.dep
        · simp [h2]
        · simp [h2]; omega
      | succ g => simp
set_option maxRecDepth 100000 in
set_option maxHeartbeats 4000000 in
theorem c_partOf (L : List EN) (a : Option Addr) (n c : Nat) (w : World) (hr : RdE w a n L) (hn : n ≤ 1048576) (hs : ∀ v ∈ L, v.t.size ≤ maxLen) : Calls Tryz.prog 49 #[.agg #[.slice a n c]] w fun e w' => e = .returned (encT (topX L n)) ∧ Below w.heap.size w w' := by
  by_cases h1 : 40 < n
  · have E : Hid (topX L n = none) := by unfold Hid topX; rw [if_pos h1]
    have d1 : (40 : Int) < (n : Int) := by omega
    clear h1
    go_enter Tryz.func49, Tryz.ntmps49
    go_wp2
    go_ret
    exact ⟨by rw [E.out]; rfl, (Below.refl _ _).alloc (Nat.le_refl _) _⟩
  have d1 : ¬ (40 : Int) < (n : Int) := by omega
  have CP : Hid (∀ W, Below w.heap.size w W → Calls Tryz.prog 102 #[.slice a n c, .int .i64 ((n : Int) - 1)] W fun e w' => e = .returned (.tuple #[encO (pF L n n), .int .i64 (ahO n (pF L n n))]) ∧ Below W.heap.size W w') := fun W hW => c_part L a n c hn hs n n W (Nat.le_refl _) (Nat.le_refl _) (hr.below hW)
  have hag := agree L n n
  have hwd := wF_dep L n n
  cases e : pF L n n with
  | none =>
    have E : Hid (topX L n = none) := by unfold Hid topX; rw [if_neg h1]; simp only [e]
    rw [e] at CP
    clear hag hwd h1 e
    go_enter Tryz.func49, Tryz.ntmps49
    go_wp2_with fail
    refine (CP.out _ ((Below.refl _ _).alloc (Nat.le_refl _) _)).mono ?_
    rintro e w1 ⟨rfl, hb⟩
    have HB : Hid (Below w.heap.size w w1) := ((Below.refl w.heap.size w).alloc (Nat.le_refl _) _).trans (hb.mono (by simp))
    clear hb
    simp only [encO, ahO]
    go_wp2
    go_ret
    exact ⟨by rw [E.out]; rfl, HB.out⟩
  | some q =>
    obtain ⟨p, f⟩ := q
    rw [e] at hag
    have hag' : wF L n n = (f, p.dep, true) := hag
    have hdp : p.dep ≤ 1048576 := by rw [hag'] at hwd; dsimp only at hwd; omega
    clear hag hag' hwd
    cases f with
    | succ g =>
      have E : Hid (topX L n = none) := by unfold Hid topX; rw [if_neg h1]; simp only [e]
      rw [e] at CP
      obtain ⟨T, v, hv⟩ := enc_if p
      have g0 : (0 : Int) ≤ ((g + 1 : Nat) : Int) - 1 := by omega
      clear h1 e hdp
      go_enter Tryz.func49, Tryz.ntmps49
      go_wp2_with fail
      refine (CP.out _ ((Below.refl _ _).alloc (Nat.le_refl _) _)).mono ?_
      rintro e w1 ⟨rfl, hb⟩
      have HB : Hid (Below w.heap.size w w1) := ((Below.refl w.heap.size w).alloc (Nat.le_refl _) _).trans (hb.mono (by simp))
      clear hb
      simp only [encO, ahO]
      rw [hv]
      clear hv
      go_wp2
      go_ret
      exact ⟨by rw [E.out]; rfl, HB.out⟩
    | zero =>
    cases p with
    | con k1 n1 t1 =>
      have CD := c_dep (PT.con k1 n1 t1) (by omega)
      unfold DepC at CD
      obtain ⟨d, hd⟩ : ∃ d : Int, d = ((PT.con k1 n1 t1).dep : Nat) := ⟨_, rfl⟩
      have CD' : Hid (∀ W, Calls Tryz.prog 267 #[.agg #[.int .i64 k1, .int .i64 n1, .string t1]] W fun e w' => e = .returned (.int .i64 d) ∧ Below W.heap.size W w') := by rw [hd]; exact CD
      by_cases h2 : 12 < (PT.con k1 n1 t1).dep
      · have E : Hid (topX L n = none) := by unfold Hid topX; rw [if_neg h1]; simp only [e]; rw [if_pos h2]
        have d2 : (12 : Int) < d := by omega
        rw [e] at CP
        clear CD hd h2 hdp
        go_enter Tryz.func49, Tryz.ntmps49
        go_wp2_with fail
        refine (CP.out _ ((Below.refl _ _).alloc (Nat.le_refl _) _)).mono ?_
        rintro e w1 ⟨rfl, hb⟩
        have HB : Hid (Below w.heap.size w w1) := ((Below.refl w.heap.size w).alloc (Nat.le_refl _) _).trans (hb.mono (by simp))
        clear hb
        simp only [encO, ahO, PT.enc]
        go_wp2_with fail
        refine (CD'.out _).mono ?_
        rintro e' w2 ⟨rfl, hb⟩
        have HB2 : Hid (Below w.heap.size w w2) := HB.out.trans (hb.mono HB.out.size)
        clear hb
        go_wp2
        go_ret
        exact ⟨by rw [E.out]; rfl, HB2.out⟩
      · have E : Hid (topX L n = some (PT.con k1 n1 t1)) := by unfold Hid topX; rw [if_neg h1]; simp only [e]; rw [if_neg h2]
        have d2 : ¬ (12 : Int) < d := by omega
        rw [e] at CP
        clear CD hd h2 hdp
        go_enter Tryz.func49, Tryz.ntmps49
        go_wp2_with fail
        refine (CP.out _ ((Below.refl _ _).alloc (Nat.le_refl _) _)).mono ?_
        rintro e w1 ⟨rfl, hb⟩
        have HB : Hid (Below w.heap.size w w1) := ((Below.refl w.heap.size w).alloc (Nat.le_refl _) _).trans (hb.mono (by simp))
        clear hb
        simp only [encO, ahO, PT.enc]
        go_wp2_with fail
        refine (CD'.out _).mono ?_
        rintro e' w2 ⟨rfl, hb⟩
        have HB2 : Hid (Below w.heap.size w w2) := HB.out.trans (hb.mono HB.out.size)
        clear hb
        go_wp2
        go_ret
        exact ⟨by rw [E.out]; simp only [encT, PT.enc]; rfl, HB2.out⟩
    | col c1 =>
      have CD := c_dep (PT.col c1) (by omega)
      unfold DepC at CD
      obtain ⟨d, hd⟩ : ∃ d : Int, d = ((PT.col c1).dep : Nat) := ⟨_, rfl⟩
      have CD' : Hid (∀ W, Calls Tryz.prog 268 #[.agg #[.int .i64 c1]] W fun e w' => e = .returned (.int .i64 d) ∧ Below W.heap.size W w') := by rw [hd]; exact CD
      by_cases h2 : 12 < (PT.col c1).dep
      · have E : Hid (topX L n = none) := by unfold Hid topX; rw [if_neg h1]; simp only [e]; rw [if_pos h2]
        have d2 : (12 : Int) < d := by omega
        rw [e] at CP
        clear CD hd h2 hdp
        go_enter Tryz.func49, Tryz.ntmps49
        go_wp2_with fail
        refine (CP.out _ ((Below.refl _ _).alloc (Nat.le_refl _) _)).mono ?_
        rintro e w1 ⟨rfl, hb⟩
        have HB : Hid (Below w.heap.size w w1) := ((Below.refl w.heap.size w).alloc (Nat.le_refl _) _).trans (hb.mono (by simp))
        clear hb
        simp only [encO, ahO, PT.enc]
        go_wp2_with fail
        refine (CD'.out _).mono ?_
        rintro e' w2 ⟨rfl, hb⟩
        have HB2 : Hid (Below w.heap.size w w2) := HB.out.trans (hb.mono HB.out.size)
        clear hb
        go_wp2
        go_ret
        exact ⟨by rw [E.out]; rfl, HB2.out⟩
      · have E : Hid (topX L n = some (PT.col c1)) := by unfold Hid topX; rw [if_neg h1]; simp only [e]; rw [if_neg h2]
        have d2 : ¬ (12 : Int) < d := by omega
        rw [e] at CP
        clear CD hd h2 hdp
        go_enter Tryz.func49, Tryz.ntmps49
        go_wp2_with fail
        refine (CP.out _ ((Below.refl _ _).alloc (Nat.le_refl _) _)).mono ?_
        rintro e w1 ⟨rfl, hb⟩
        have HB : Hid (Below w.heap.size w w1) := ((Below.refl w.heap.size w).alloc (Nat.le_refl _) _).trans (hb.mono (by simp))
        clear hb
        simp only [encO, ahO, PT.enc]
        go_wp2_with fail
        refine (CD'.out _).mono ?_
        rintro e' w2 ⟨rfl, hb⟩
        have HB2 : Hid (Below w.heap.size w w2) := HB.out.trans (hb.mono HB.out.size)
        clear hb
        go_wp2
        go_ret
        exact ⟨by rw [E.out]; simp only [encT, PT.enc]; rfl, HB2.out⟩
    | una o1 p1 =>
      have CD := c_dep (PT.una o1 p1) (by omega)
      unfold DepC at CD
      obtain ⟨d, hd⟩ : ∃ d : Int, d = ((PT.una o1 p1).dep : Nat) := ⟨_, rfl⟩
      have CD' : Hid (∀ W, Calls Tryz.prog 269 #[.agg #[.int .i64 o1, p1.enc]] W fun e w' => e = .returned (.int .i64 d) ∧ Below W.heap.size W w') := by rw [hd]; exact CD
      by_cases h2 : 12 < (PT.una o1 p1).dep
      · have E : Hid (topX L n = none) := by unfold Hid topX; rw [if_neg h1]; simp only [e]; rw [if_pos h2]
        have d2 : (12 : Int) < d := by omega
        rw [e] at CP
        clear CD hd h2 hdp
        go_enter Tryz.func49, Tryz.ntmps49
        go_wp2_with fail
        refine (CP.out _ ((Below.refl _ _).alloc (Nat.le_refl _) _)).mono ?_
        rintro e w1 ⟨rfl, hb⟩
        have HB : Hid (Below w.heap.size w w1) := ((Below.refl w.heap.size w).alloc (Nat.le_refl _) _).trans (hb.mono (by simp))
        clear hb
        simp only [encO, ahO, PT.enc]
        go_wp2_with fail
        refine (CD'.out _).mono ?_
        rintro e' w2 ⟨rfl, hb⟩
        have HB2 : Hid (Below w.heap.size w w2) := HB.out.trans (hb.mono HB.out.size)
        clear hb
        go_wp2
        go_ret
        exact ⟨by rw [E.out]; rfl, HB2.out⟩
      · have E : Hid (topX L n = some (PT.una o1 p1)) := by unfold Hid topX; rw [if_neg h1]; simp only [e]; rw [if_neg h2]
        have d2 : ¬ (12 : Int) < d := by omega
        rw [e] at CP
        clear CD hd h2 hdp
        go_enter Tryz.func49, Tryz.ntmps49
        go_wp2_with fail
        refine (CP.out _ ((Below.refl _ _).alloc (Nat.le_refl _) _)).mono ?_
        rintro e w1 ⟨rfl, hb⟩
        have HB : Hid (Below w.heap.size w w1) := ((Below.refl w.heap.size w).alloc (Nat.le_refl _) _).trans (hb.mono (by simp))
        clear hb
        simp only [encO, ahO, PT.enc]
        go_wp2_with fail
        refine (CD'.out _).mono ?_
        rintro e' w2 ⟨rfl, hb⟩
        have HB2 : Hid (Below w.heap.size w w2) := HB.out.trans (hb.mono HB.out.size)
        clear hb
        go_wp2
        go_ret
        exact ⟨by rw [E.out]; simp only [encT, PT.enc]; rfl, HB2.out⟩
    | bin o1 p1 u1 =>
      have CD := c_dep (PT.bin o1 p1 u1) (by omega)
      unfold DepC at CD
      obtain ⟨d, hd⟩ : ∃ d : Int, d = ((PT.bin o1 p1 u1).dep : Nat) := ⟨_, rfl⟩
      have CD' : Hid (∀ W, Calls Tryz.prog 270 #[.agg #[.int .i64 o1, p1.enc, u1.enc]] W fun e w' => e = .returned (.int .i64 d) ∧ Below W.heap.size W w') := by rw [hd]; exact CD
      by_cases h2 : 12 < (PT.bin o1 p1 u1).dep
      · have E : Hid (topX L n = none) := by unfold Hid topX; rw [if_neg h1]; simp only [e]; rw [if_pos h2]
        have d2 : (12 : Int) < d := by omega
        rw [e] at CP
        clear CD hd h2 hdp
        go_enter Tryz.func49, Tryz.ntmps49
        go_wp2_with fail
        refine (CP.out _ ((Below.refl _ _).alloc (Nat.le_refl _) _)).mono ?_
        rintro e w1 ⟨rfl, hb⟩
        have HB : Hid (Below w.heap.size w w1) := ((Below.refl w.heap.size w).alloc (Nat.le_refl _) _).trans (hb.mono (by simp))
        clear hb
        simp only [encO, ahO, PT.enc]
        go_wp2_with fail
        refine (CD'.out _).mono ?_
        rintro e' w2 ⟨rfl, hb⟩
        have HB2 : Hid (Below w.heap.size w w2) := HB.out.trans (hb.mono HB.out.size)
        clear hb
        go_wp2
        go_ret
        exact ⟨by rw [E.out]; rfl, HB2.out⟩
      · have E : Hid (topX L n = some (PT.bin o1 p1 u1)) := by unfold Hid topX; rw [if_neg h1]; simp only [e]; rw [if_neg h2]
        have d2 : ¬ (12 : Int) < d := by omega
        rw [e] at CP
        clear CD hd h2 hdp
        go_enter Tryz.func49, Tryz.ntmps49
        go_wp2_with fail
        refine (CP.out _ ((Below.refl _ _).alloc (Nat.le_refl _) _)).mono ?_
        rintro e w1 ⟨rfl, hb⟩
        have HB : Hid (Below w.heap.size w w1) := ((Below.refl w.heap.size w).alloc (Nat.le_refl _) _).trans (hb.mono (by simp))
        clear hb
        simp only [encO, ahO, PT.enc]
        go_wp2_with fail
        refine (CD'.out _).mono ?_
        rintro e' w2 ⟨rfl, hb⟩
        have HB2 : Hid (Below w.heap.size w w2) := HB.out.trans (hb.mono HB.out.size)
        clear hb
        go_wp2
        go_ret
        exact ⟨by rw [E.out]; simp only [encT, PT.enc]; rfl, HB2.out⟩
set_option maxRecDepth 100000 in
set_option maxHeartbeats 4000000 in
theorem c_implX (L : List EN) (a : Option Addr) (n c : Nat) (w : World) (hr : RdE w a n L) (hn : n ≤ 1048576) (hs : ∀ v ∈ L, v.t.size ≤ maxLen) : Calls Tryz.prog 26 #[.agg #[.slice a n c]] w fun e w' => e = .returned (.bool (okX L n)) ∧ Below w.heap.size w w' := by
  have CP : ∀ W, Below w.heap.size w W → Calls Tryz.prog 49 #[.agg #[.slice a n c]] W fun e w' => e = .returned (encT (topX L n)) ∧ Below W.heap.size W w' := fun W hW => c_partOf L a n c W (hr.below hW) hn hs
  rw [← top_ok]
  generalize topX L n = o at CP ⊢
  cases o with
  | none =>
    go_enter Tryz.func26, Tryz.ntmps26
    go_wp2_with fail
    refine (CP _ ((Below.refl _ _).alloc (Nat.le_refl _) _)).mono ?_
    rintro e w1 ⟨rfl, hb⟩
    have HB : Hid (Below w.heap.size w w1) := ((Below.refl w.heap.size w).alloc (Nat.le_refl _) _).trans (hb.mono (by simp))
    clear hb CP
    simp only [encT]
    go_wp2
    go_ret
    exact ⟨rfl, HB.out⟩
  | some p =>
    obtain ⟨T, v, hv⟩ := enc_if p
    go_enter Tryz.func26, Tryz.ntmps26
    go_wp2_with fail
    refine (CP _ ((Below.refl _ _).alloc (Nat.le_refl _) _)).mono ?_
    rintro e w1 ⟨rfl, hb⟩
    have HB : Hid (Below w.heap.size w w1) := ((Below.refl w.heap.size w).alloc (Nat.le_refl _) _).trans (hb.mono (by simp))
    clear hb CP
    simp only [encT]
    rw [hv]
    clear hv
    go_wp2
    go_ret
    exact ⟨rfl, HB.out⟩
set_option maxRecDepth 100000 in
set_option maxHeartbeats 4000000 in
theorem c_specX (L : List EN) (a : Option Addr) (n c : Nat) (w : World) (hr : RdE w a n L) (hn : n ≤ 1048576) (hs : ∀ v ∈ L, v.t.size ≤ maxLen) : Calls Tryz.prog 51 #[.agg #[.slice a n c]] w fun e w' => e = .returned (.bool (okX L n)) ∧ Below w.heap.size w w' := by
  have CW : Hid (∀ W, Below w.heap.size w W → Calls Tryz.prog 105 #[.agg #[.slice a n c], .int .i64 ((n : Int) - 1)] W fun e w' => e = .returned (.tuple #[.int .i64 ((wF L n n).1 : Int), .int .i64 ((wF L n n).2.1 : Int), .bool (wF L n n).2.2]) ∧ Below W.heap.size W w') := fun W hW => c_walk L a n c hn hs n n W (Nat.le_refl _) (Nat.le_refl _) hn (hr.below hW)
  cases h1 : inB (n : Int) 1 40
  · have E : Hid (okX L n = false) := by unfold Hid okX; rw [h1]; rfl
    go_enter Tryz.func51, Tryz.ntmps51
    go_wp2_with (go_at_call 86; refine (c_in _ _ _ _).mono ?_; rintro e w' ⟨rfl, rfl⟩)
    go_ret
    exact ⟨ret_bool E.out.symm, (Below.refl _ _).alloc (Nat.le_refl _) _⟩
  generalize hq : wF L n n = q at CW
  obtain ⟨f, d, ok⟩ := q
  have E : Hid (okX L n = (ok && (f == 0 && decide (d ≤ 12)))) := by unfold Hid okX; rw [h1, hq]; rfl
  clear hq
  cases ok
  · go_enter Tryz.func51, Tryz.ntmps51
    go_wp2_with (go_at_call 86; refine (c_in _ _ _ _).mono ?_; rintro e w' ⟨rfl, rfl⟩)
    refine (CW.out _ ((Below.refl _ _).alloc (Nat.le_refl _) _)).mono ?_
    rintro e w1 ⟨rfl, hb⟩
    have HB : Hid (Below w.heap.size w w1) := ((Below.refl w.heap.size w).alloc (Nat.le_refl _) _).trans (hb.mono (by simp))
    clear hb
    go_wp2
    go_ret
    exact ⟨ret_bool E.out.symm, HB.out⟩
  · by_cases hf : f = 0
    · have hf' : ((f : Int) == 0) = true := by simp [hf]
      by_cases hd : d ≤ 12
      all_goals
        have hd' : decide ((d : Int) ≤ 12) = decide (d ≤ 12) := by by_cases hx : d ≤ 12 <;> simp [hx] <;> omega
        have E2 : Hid (okX L n = decide (d ≤ 12)) := by unfold Hid; rw [E.out, hf]; rfl
        clear E
        go_enter Tryz.func51, Tryz.ntmps51
        go_wp2_with (go_at_call 86; refine (c_in _ _ _ _).mono ?_; rintro e w' ⟨rfl, rfl⟩)
        refine (CW.out _ ((Below.refl _ _).alloc (Nat.le_refl _) _)).mono ?_
        rintro e w1 ⟨rfl, hb⟩
        have HB : Hid (Below w.heap.size w w1) := ((Below.refl w.heap.size w).alloc (Nat.le_refl _) _).trans (hb.mono (by simp))
        clear hb
        go_wp2
        go_ret
        exact ⟨ret_bool (by rw [E2.out]; simp [hd]), HB.out⟩
    · have hf' : ((f : Int) == 0) = false := by simp; omega
      have E2 : Hid (okX L n = false) := by unfold Hid; rw [E.out]; simp [hf]
      clear E
      go_enter Tryz.func51, Tryz.ntmps51
      go_wp2_with (go_at_call 86; refine (c_in _ _ _ _).mono ?_; rintro e w' ⟨rfl, rfl⟩)
      refine (CW.out _ ((Below.refl _ _).alloc (Nat.le_refl _) _)).mono ?_
      rintro e w1 ⟨rfl, hb⟩
      have HB : Hid (Below w.heap.size w w1) := ((Below.refl w.heap.size w).alloc (Nat.le_refl _) _).trans (hb.mono (by simp))
      clear hb
      go_wp2
      go_ret
      exact ⟨ret_bool E2.out.symm, HB.out⟩

end Go.Proofs.YtbpfpjmjmkpjoaaGreatDoor
