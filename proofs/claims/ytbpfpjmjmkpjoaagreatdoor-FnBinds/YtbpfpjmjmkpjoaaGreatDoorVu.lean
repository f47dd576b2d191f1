/-
  The text of a value: the program's and the specification's.
-/
import Derived.Test.YtbpfpjmjmkpjoaaGreatDoorVt
import Derived.Test.YtbpfpjmjmkpjoaaGreatDoorBx
import Derived.Lib.AppendIntMem
namespace Go.Proofs.YtbpfpjmjmkpjoaaGreatDoor
open Go Go.RowKit
theorem bcell {W w1 : World} (hb : Below W.heap.size W w1) : (∀ b o, b < W.heap.size → w1.cell? ⟨b, o, none⟩ = W.cell? ⟨b, o, none⟩) ∧ (∀ b o, b < W.heap.size → w1.frozen? ⟨b, o, none⟩ = W.frozen? ⟨b, o, none⟩) :=
  ⟨fun b o h => hb.cell (p := ⟨b, o, none⟩) h, fun b o h => hb.frozen (p := ⟨b, o, none⟩) h⟩

def nullT : ByteArray := ⟨#[110, 117, 108, 108]⟩
/-- The text of a value, as both write it. -/
def vtS (k n : Int) (t : ByteArray) : ByteArray :=
  if valB k n t then (if k = 0 then ⟨#[110, 117, 108, 108]⟩ else if k = 1 then ⟨(Lib.itoa n).toArray⟩ else ⟨#[39]⟩ ++ t ++ ⟨#[39]⟩) else ⟨#[]⟩
def vtE (k n : Int) (t : ByteArray) : Int := if valB k n t then 0 else 1
theorem vt_bad {k n : Int} {t : ByteArray} (h : valB k n t = false) : vtS k n t = ⟨#[]⟩ ∧ vtE k n t = 1 := by unfold vtS vtE; rw [h]; exact ⟨rfl, rfl⟩
theorem vt_0 {n : Int} {t : ByteArray} (h : valB 0 n t = true) : vtS 0 n t = ⟨#[110, 117, 108, 108]⟩ ∧ vtE 0 n t = 0 := by unfold vtS vtE; rw [h]; exact ⟨rfl, rfl⟩
theorem vt_1 {n : Int} {t : ByteArray} (h : valB 1 n t = true) : vtS 1 n t = ⟨(Lib.itoa n).toArray⟩ ∧ vtE 1 n t = 0 := by unfold vtS vtE; rw [h]; exact ⟨rfl, rfl⟩
theorem vt_2 {n : Int} {t : ByteArray} (h : valB 2 n t = true) : vtS 2 n t = ⟨#[39]⟩ ++ t ++ ⟨#[39]⟩ ∧ vtE 2 n t = 0 := by unfold vtS vtE; rw [h]; exact ⟨rfl, rfl⟩
theorem val_kind {k n : Int} {t : ByteArray} (h : valB k n t = true) : k = 0 ∨ k = 1 ∧ -1000000000 ≤ n ∧ n ≤ 1000000000 ∨ k = 2 ∧ t.size ≤ 10 := by
  by_cases h0 : k = 0
  · exact .inl h0
  by_cases h1 : k = 1
  · subst h1
    rw [val1] at h
    simp [inB] at h
    exact .inr (.inl ⟨rfl, h.1.1, h.1.2⟩)
  by_cases h2 : k = 2
  · subst h2
    rw [val2] at h
    simp [wordB] at h
    exact .inr (.inr ⟨rfl, h.2.1⟩)
  rw [valx n t h0 h1 h2] at h
  cases h
set_option maxRecDepth 100000 in
theorem c_text0 (n : Int) (t : ByteArray) (w : World) :
    Calls Tryz.prog 106 #[.agg #[.int .i64 0, .int .i64 n, .string t]] w fun e w' => e = .returned (.string ⟨#[110, 117, 108, 108]⟩) ∧ Below w.heap.size w w' := by
  go_enter Tryz.func106, Tryz.ntmps106
  go_wp2
  go_ret
  exact ⟨rfl, (Below.refl _ _).alloc (Nat.le_refl _) _⟩
set_option maxRecDepth 100000 in
theorem c_text1 (n : Int) (t : ByteArray) (w : World) (h0 : -1000000000 ≤ n) (h1 : n ≤ 1000000000) :
    Calls Tryz.prog 106 #[.agg #[.int .i64 1, .int .i64 n, .string t]] w fun e w' => e = .returned (.string ⟨(Lib.itoa n).toArray⟩) ∧ Below w.heap.size w w' := by
  go_enter Tryz.func106, Tryz.ntmps106
  go_wp2_with (go_at_call 127; refine (c_dig n _ h0 h1).mono ?_; rintro e w1 ⟨rfl, hb1⟩)
  go_ret
  exact ⟨rfl, (((Below.refl w.heap.size w).alloc (Nat.le_refl _) _).trans (hb1.mono (by simp)))⟩
set_option maxRecDepth 100000 in
theorem c_text2 (n : Int) (t : ByteArray) (w : World) (ht : t.size ≤ 10) :
    Calls Tryz.prog 106 #[.agg #[.int .i64 2, .int .i64 n, .string t]] w fun e w' => e = .returned (.string (⟨#[39]⟩ ++ t ++ ⟨#[39]⟩)) ∧ Below w.heap.size w w' := by
  go_enter Tryz.func106, Tryz.ntmps106
  go_wp2
  go_ret
  exact ⟨rfl, (Below.refl _ _).alloc (Nat.le_refl _) _⟩
def AnsT (w : World) (k n : Int) (t : ByteArray) (e : Ending) (w' : World) : Prop := e = .returned (.tuple #[.string (vtS k n t), .int .i64 (vtE k n t)]) ∧ Below w.heap.size w w'
theorem ansT {w : World} {k n c : Int} {t s : ByteArray} {w' : World} (h : vtS k n t = s ∧ vtE k n t = c) (hb : Below w.heap.size w w') : AnsT w k n t (.returned (.tuple #[.string s, .int .i64 c])) w' := by
  unfold AnsT
  rw [h.1, h.2]
  exact ⟨rfl, hb⟩
theorem grow_below {w : World} (k : Nat) (os : Array Obj) : Below w.heap.size w (Sort.grow (w.drewN k) os) := Lib.below_grow _ w (Nat.le_refl _) k os
abbrev TabP (w : World) : Prop := Lib.TabIs Tryz.prog w "internal/strconv.uint64pow10" .u64 Lib.pow10Tab
theorem TabP.below {w w' : World} (h : TabP w) (hb : Below w.heap.size w w') : TabP w' := Lib.tabBelow_of_tabIs h w' hb

set_option maxRecDepth 100000 in
set_option maxHeartbeats 1000000 in
theorem c_implVT (k n : Int) (t : ByteArray) (w : World) (hs : t.size ≤ maxLen) (ht : TabP w) :
    Calls Tryz.prog 103 #[.agg #[.int .i64 k, .int .i64 n, .string t]] w (AnsT w k n t) := by
  have A := c_implOK k n t
  have HT : Hid (TabP w) := ht
  clear ht
  cases hv : valB k n t
  · have R : Hid (vtS k n t = ⟨#[]⟩ ∧ vtE k n t = 1) := vt_bad hv
    rw [hv] at A
    clear hv
    go_enter Tryz.func103, Tryz.ntmps103
    go_wp2_with fail
    refine (A _ hs).mono ?_
    rintro e w1 ⟨rfl, hb1⟩
    have hq1 := (((Below.refl w.heap.size w).alloc (Nat.le_refl _) _).trans (hb1.mono (by simp)))
    clear A hb1
    go_wp2
    go_ret2
    exact ansT R.out hq1
  · rw [hv] at A
    have V := val_kind hv
    rcases V with rfl | ⟨rfl, h0, h1⟩ | ⟨rfl, h0⟩
    · have R : Hid (vtS 0 n t = ⟨#[110, 117, 108, 108]⟩ ∧ vtE 0 n t = 0) := vt_0 hv
      clear hv
      go_enter Tryz.func103, Tryz.ntmps103
      go_wp2_with fail
      refine (A _ hs).mono ?_
      rintro e w1 ⟨rfl, hb1⟩
      clear A
      have hq1 := (((Below.refl w.heap.size w).alloc (Nat.le_refl _) _).trans (hb1.mono (by simp)))
      obtain ⟨hc1, hf1⟩ := bcell hb1
      go_wp2
      go_ret2
      exact ansT R.out hq1
    · have R : Hid (vtS 1 n t = ⟨(Lib.itoa n).toArray⟩ ∧ vtE 1 n t = 0) := vt_1 hv
      clear hv
      go_enter Tryz.func103, Tryz.ntmps103
      go_wp2_with fail
      refine (A _ hs).mono ?_
      rintro e w1 ⟨rfl, hb1⟩
      clear A
      have hq1 := (((Below.refl w.heap.size w).alloc (Nat.le_refl _) _).trans (hb1.mono (by simp)))
      obtain ⟨hc1, hf1⟩ := bcell hb1
      go_wp2_with fail
      refine (c_itoa n h0 h1 _ (HT.out.below hq1)).mono ?_
      rintro e w2 ⟨rfl, kk, os, hw2⟩
      have hq2 := hq1.trans ((by rw [hw2]; exact grow_below kk os : Below w1.heap.size w1 w2).mono hq1.size)
      clear hw2 hb1 hq1 hc1 hf1
      go_wp2
      go_ret2
      exact ansT R.out hq2
    · have R : Hid (vtS 2 n t = ⟨#[39]⟩ ++ t ++ ⟨#[39]⟩ ∧ vtE 2 n t = 0) := vt_2 hv
      clear hv
      go_enter Tryz.func103, Tryz.ntmps103
      go_wp2_with fail
      refine (A _ hs).mono ?_
      rintro e w1 ⟨rfl, hb1⟩
      clear A
      have hq1 := (((Below.refl w.heap.size w).alloc (Nat.le_refl _) _).trans (hb1.mono (by simp)))
      obtain ⟨hc1, hf1⟩ := bcell hb1
      go_wp2
      go_ret2
      exact ansT R.out hq1
end Go.Proofs.YtbpfpjmjmkpjoaaGreatDoor
