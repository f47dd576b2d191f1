/-
  Those who hold one thing, by mode, as sets of bits: who is against a lock, one more.
-/
import Derived.Test.YtmjacoocnkcilaaDoorLc
import Derived.Deep.RegionWith
import Derived.Deep.DeepCutAuto
import Derived.Deep.QuietTactic
namespace Go.Proofs.YtmjacoocnkcilaaDoor
open Go Go.RowKit
attribute [local go_sem ↓] Go.wp_at_zero Go.wp_at_succ

abbrev HM := Int → B64
def cH (h : HM) : Array Value := #[.int .u64 ((h 0).toNat : Int), .int .u64 ((h 1).toNat : Int), .int .u64 ((h 2).toNat : Int), .int .u64 ((h 3).toNat : Int), .int .u64 ((h 4).toNat : Int)]
def addH (h : HM) (m x : Int) : HM := fun j => if j = m then orT (h j) (bitT x) else h j
theorem cH_get (h : HM) {m : Int} (h1 : 1 ≤ m ∧ m ≤ 4) : (cH h)[m.toNat]? = some (.int .u64 ((h m).toNat : Int)) := by
  have hm : m = 1 ∨ m = 2 ∨ m = 3 ∨ m = 4 := by omega
  rcases hm with rfl | rfl | rfl | rfl <;> rfl
theorem cH_add (h : HM) {m : Int} (h1 : 1 ≤ m ∧ m ≤ 4) (x : Int) : (cH h).setIfInBounds m.toNat (.int .u64 ((orT (h m) (bitT x)).toNat : Int)) = cH (addH h m x) := by
  have hm : m = 1 ∨ m = 2 ∨ m = 3 ∨ m = 4 := by omega
  rcases hm with rfl | rfl | rfl | rfl <;> simp [cH, addH]
def agS (h : HM) (m : Int) : Nat → B64
  | 0 => 0#64
  | j + 1 => if j = 0 ∨ fitB j m = true then agS h m j else orT (agS h m j) (h j)
def agH (h : HM) (x m : Int) : B64 := subT (agS h m 5) (bitT x)
theorem agS_step (h : HM) (m : Int) (j : Nat) (hj : 1 ≤ j) : agS h m (j + 1) = if fitB j m = true then agS h m j else orT (agS h m j) (h j) := by
  show (if j = 0 ∨ fitB j m = true then _ else _) = _
  by_cases hf : fitB j m = true
  · rw [if_pos (.inr hf), if_pos hf]
  · rw [if_neg (fun h => h.elim (by omega) hf), if_neg hf]
set_option maxRecDepth 100000 in
set_option maxHeartbeats 4000000 in
theorem c_against (h : HM) (x b r m : Int) (w : World) (ht : FitH w) (hm : 1 ≤ m ∧ m ≤ 4) (hx : 1 ≤ x ∧ x ≤ 60) :
    Calls Tryd.prog 77 #[.agg (cH h), .agg #[.int .i64 x, .int .i64 b, .int .i64 r, .int .i64 m]] w fun e w' => e = .returned (.int .u64 ((agH h x m).toNat : Int)) ∧ Below w.heap.size w w' := by
  have HT : Hid (FitH w) := ht
  clear ht
  unfold cH
  obtain ⟨V0, hV0⟩ : ∃ V, w.alloc (.cells (cH h) 76) = V := ⟨_, rfl⟩
  obtain ⟨V, hV⟩ : ∃ V, V0.alloc (.cells #[.int .i64 x, .int .i64 b, .int .i64 r, .int .i64 m] 55) = V := ⟨_, rfl⟩
  have hb0 : Below w.heap.size w V0 := by rw [← hV0]; exact (Below.refl _ _).alloc (Nat.le_refl _) _
  have hb1 : Below V0.heap.size V0 V := by rw [← hV]; exact (Below.refl _ _).alloc (Nat.le_refl _) _
  have BH : Hid (Box V w.heap.size 76 (cH h)) := (show Box V0 w.heap.size 76 (cH h) by rw [← hV0]; exact Box.new _ _ _).belowS hb1
  have BK : Hid (Box V V0.heap.size 55 #[.int .i64 x, .int .i64 b, .int .i64 r, .int .i64 m]) := by unfold Hid; rw [← hV]; exact Box.new _ _ _
  have HB : Hid (Below w.heap.size w V) := hb0.trans (hb1.mono hb0.size)
  unfold cH at hV0
  clear hb0 hb1
  have CF : Hid (∀ (W : World) (j : Nat), FitH W → 1 ≤ (j : Int) ∧ (j : Int) ≤ 4 → Calls Tryd.prog 42 #[.int .i64 (j : Int), .int .i64 m] W fun e w' => e = .returned (.bool (fitB j m)) ∧ Below W.heap.size W w') := fun W j hW hj => c_modesFit j m W hW hj hm
  have CX : Hid (∀ W : World, Calls Tryd.prog 88 #[.int .i64 x] W fun e w' => e = .returned (uV (bitT x)) ∧ w' = W) := fun W => c_setOf x W (by omega) (by omega)
  go_enter Tryd.func77, Tryd.ntmps77
  go_wp2
  go_loopw [5, 6] (fun s j wr => ∃ k : Nat, 1 ≤ k ∧ k ≤ 5 ∧ j = .int .i64 (k : Int) ∧ s = .int .u64 ((agS h m k).toNat : Int) ∧ Hid (Below V.heap.size V wr)) (fun _ j _ => 5 - (intOf j).toNat)
  case atStart => exact ⟨1, by omega, by omega, rfl, rfl, Below.refl _ _⟩
  case round =>
    obtain ⟨k, hk1, hk5, rfl, rfl, hb⟩ := hrel
    have hwr : Hid (Below w.heap.size w wr) := HB.out.trans (hb.out.mono HB.out.size)
    have bk := BK.out.belowS hb.out
    have bh := BH.out.belowS hb.out
    have k3 := bk.cell 3
    have k0 := bk.cell 0
    by_cases hk : k < 5
    · obtain ⟨f, hf⟩ : ∃ f, fitB k m = f := ⟨_, rfl⟩
      have hs := agS_step h m k hk1
      have hcj := bh.cell k
      have hg := cH_get h (m := (k : Int)) (by omega)
      rw [Int.toNat_natCast] at hg
      rw [hg] at hcj
      have HF : Hid (FitH wr) := HT.out.below hwr.out
      have c1 : (k : Int) ≤ 4 := by omega
      have c2 : (k : Int) < 5 := by omega
      rw [hf] at hs
      have HSt : Hid (agS h m (k + 1) = if f = true then agS h m k else orT (agS h m k) (h (k : Int))) := hs
      have ho := bits_or (agS h m k) (h (k : Int))
      clear hs hg bk bh
      go_wp2_with fail
      refine (CF.out wr k HF.out (by omega)).mono ?_
      rintro e w1 ⟨rfl, hb1⟩
      rw [hf]
      have HB1 : Hid (Below V.heap.size V w1) := hb.out.trans (hb1.mono hb.out.size)
      have hcj1 : w1.cell? ⟨w.heap.size, k, none⟩ = some (.int .u64 ((h (k : Int)).toNat : Int)) := far6 hb1 hcj
      clear hb1 hcj k0 k3 hf hb
      cases f
      · go_wp2
        go_roundw
        case rel => exact ⟨k + 1, by omega, by omega, by go_num, by rw [HSt.out]; rfl, HB1⟩
        case measure => simp [intOf]; omega
      · go_wp2
        go_roundw
        case rel => exact ⟨k + 1, by omega, by omega, by go_num, by rw [HSt.out]; rfl, HB1⟩
        case measure => simp [intOf]; omega
    · have e : k = 5 := by omega
      subst e
      have c1 : ¬ ((5 : Nat) : Int) ≤ 4 := by omega
      have hn := bits_andNot (agS h m 5) (bitT x)
      clear bk bh
      go_wp2_with fail
      refine (CX.out wr).mono ?_
      rintro e w1 ⟨rfl, rfl⟩
      unfold uV
      go_wp2
      go_ret
      exact ⟨rfl, hwr.out⟩
set_option maxRecDepth 100000 in
set_option maxHeartbeats 4000000 in
theorem c_add (g : Nat) (h : HM) (x b r m : Int) (w : World) (hbx : Box w g 76 (cH h)) (hm : 1 ≤ m ∧ m ≤ 4) (hx : 1 ≤ x ∧ x ≤ 60) :
    Calls Tryd.prog 78 #[.pointer (some ⟨g, 0, none⟩), .agg #[.int .i64 x, .int .i64 b, .int .i64 r, .int .i64 m]] w fun e w' => (∃ v, e = .returned v) ∧ Box w' g 76 (cH (addH h m x)) ∧ Inn g (g + 1) w w' := by
  have HX : Hid (Box w g 76 (cH h)) := hbx
  obtain ⟨V, hV⟩ : ∃ V, w.alloc (.cells #[.int .i64 x, .int .i64 b, .int .i64 r, .int .i64 m] 55) = V := ⟨_, rfl⟩
  have hb1 : Below w.heap.size w V := by rw [← hV]; exact (Below.refl _ _).alloc (Nat.le_refl _) _
  have BH : Hid (Box V g 76 (cH h)) := hbx.belowS hb1
  have BK : Hid (Box V w.heap.size 55 #[.int .i64 x, .int .i64 b, .int .i64 r, .int .i64 m]) := by unfold Hid; rw [← hV]; exact Box.new _ _ _
  have lg : g < w.heap.size := hbx.lt
  have HB : Hid (Below w.heap.size w V) := hb1
  clear hb1 hbx
  obtain ⟨k, hk⟩ : ∃ k : Nat, m = (k : Int) := ⟨m.toNat, by omega⟩
  have hcj := BH.out.cell k
  have hg := cH_get h hm
  have hadd := cH_add h hm x
  rw [hk, Int.toNat_natCast] at hg hadd
  rw [← hk] at hg hadd
  rw [hg] at hcj
  have hth := BH.out.thaw k
  have HA : Hid (_ = _) := hadd
  have k3 := BK.out.cell 3
  have k0 := BK.out.cell 0
  have ho := bits_or (h m) (bitT x)
  have CX : Hid (∀ W : World, Calls Tryd.prog 88 #[.int .i64 x] W fun e w' => e = .returned (uV (bitT x)) ∧ w' = W) := fun W => c_setOf x W (by omega) (by omega)
  have c1 : (k : Int) < 5 := by omega
  subst hk
  clear hg hadd
  go_enter Tryd.func78, Tryd.ntmps78
  go_wp2_with fail
  go_region_with (
    go_at_call 88
    refine (CX.out _).mono ?_
    rintro e w1 ⟨rfl, rfl⟩
    unfold uV)
  all_goals
    go_wp2
    refine bodyPost_end (results_none Tryd.results78 _ _ _) rfl ⟨⟨_, rfl⟩, ?_, ?_⟩
    · have := BH.out.set k (.int .u64 ((orT (h (k : Int)) (bitT x)).toNat : Int))
      rw [HA.out] at this
      exact this
    · refine (Inn.of_below HB.out).trans ⟨rfl, rfl, rfl, by simp, fun i hi ho => ?_⟩
      exact Below.heap_setCell V ⟨g, k, none⟩ _ i (by show i ≠ g; omega)

end Go.Proofs.YtmjacoocnkcilaaDoor
