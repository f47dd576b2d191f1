/-
  The digits of the specification.
-/
import Derived.Test.YtbpfpjmjmkpjoaaGreatDoorVal
import Derived.Test.YtbpfpjmjmkpjoaaGreatDoorSf
import Derived.Lib.ItoaLen
import Derived.Lib.ItoaMem
import Derived.Laws.IdiomStrings
namespace Go.Proofs.YtbpfpjmjmkpjoaaGreatDoor
open Go Go.RowKit
theorem conv1 (W : World) (b : Nat) (z : Int) (h0 : 0 ≤ z) (h1 : z < 256) (hc : W.cell? ⟨b, 0, none⟩ = some (.int .u8 z)) :
    Sem.run Tryz.prog (convert 40 9 (.slice (some ⟨b, 0, none⟩) 1 1)) W = .ok (.string ⟨#[UInt8.ofNat z.toNat]⟩) W := by
  have := run_convert_bytes_back (P := Tryz.prog) W 40 9 5 ⟨b, 0, none⟩ 1 [UInt8.ofNat z.toNat] Tryz.underlying40 Tryz.underlying5 Tryz.underlying9 (fun j hj => by
    obtain rfl : j = 0 := by simp at hj; exact hj
    show W.cell? ⟨b, 0 + 0, none⟩ = _
    rw [Nat.add_zero, hc]
    simp
    omega)
  exact this
theorem conv1_new (W : World) (z : Int) (h0 : 0 ≤ z) (h1 : z < 256) :
    Sem.run Tryz.prog (convert 40 9 (.slice (some ⟨W.heap.size, 0, none⟩) 1 1)) (W.alloc (.cells #[.int .u8 z] 5)) = .ok (.string ⟨#[UInt8.ofNat z.toNat]⟩) (W.alloc (.cells #[.int .u8 z] 5)) :=
  conv1 _ _ z h0 h1 (by simp)
theorem conv_after {w w1 : World} (z : Int) (h0 : 0 ≤ z) (h1 : z < 256) (hb : Below (w.alloc (.cells #[.int .u8 z] 5)).drew.heap.size (w.alloc (.cells #[.int .u8 z] 5)).drew w1) :
    Sem.run Tryz.prog (convert 40 9 (.slice (some ⟨w.heap.size, 0, none⟩) 1 1)) w1 = .ok (.string ⟨#[UInt8.ofNat z.toNat]⟩) w1 :=
  conv1 _ _ z h0 h1 (by rw [hb.cell (p := ⟨w.heap.size, 0, none⟩) (by simp)]; simp)
theorem itoa_one {n : Int} (h0 : 0 ≤ n) (h1 : n < 10) : Lib.itoa n = [UInt8.ofNat (48 + n).toNat] := by
  unfold Lib.itoa
  rw [if_neg (by omega), Lib.decDigits_one (by omega), show (48 + n).toNat = 48 + n.toNat by omega]
theorem itoa_more {n : Int} (h0 : 10 ≤ n) : Lib.itoa n = Lib.itoa (n / 10) ++ [UInt8.ofNat (48 + n % 10).toNat] := by
  unfold Lib.itoa
  rw [if_neg (by omega), if_neg (by omega), Lib.decDigits, dif_neg (by omega), show (48 + n % 10).toNat = 48 + n.toNat % 10 by omega, show (n / 10).toNat = n.toNat / 10 by omega]
theorem itoa_minus {n : Int} (h : n < 0) : Lib.itoa n = 45 :: Lib.itoa (-n) := by
  unfold Lib.itoa
  rw [if_pos h, if_neg (by omega), show n.natAbs = (-n).toNat by omega]
theorem app_bytes (l m : List UInt8) : (⟨l.toArray⟩ : ByteArray) ++ ⟨m.toArray⟩ = ⟨(l ++ m).toArray⟩ := by
  apply ByteArray.ext
  simp [ByteArray.data_append]
set_option maxRecDepth 100000 in
theorem dig_one (n : Int) (w : World) (h0 : 0 ≤ n) (h1 : n < 10) :
    Calls Tryz.prog 127 #[.int .i64 n] w fun e w' => e = .returned (.string ⟨(Lib.itoa n).toArray⟩) ∧ Below w.heap.size w w' := by
  have hcv := conv1_new w (48 + n) (by omega) (by omega)
  rw [itoa_one h0 h1]
  go_enter Tryz.func127, Tryz.ntmps127
  go_wp2
  go_ret
  exact ⟨rfl, (Below.refl _ _).alloc (Nat.le_refl _) _⟩
theorem tdiv10 {n : Int} (h : 0 ≤ n) : n.tdiv 10 = n / 10 := Int.tdiv_eq_ediv_of_nonneg h
theorem tmod10 {n : Int} (h : 0 ≤ n) : n.tmod 10 = n % 10 := Int.tmod_eq_emod_of_nonneg h
set_option maxRecDepth 100000 in
theorem dig_more (n : Int) (w : World) (h0 : 10 ≤ n) (h1 : n ≤ 1000000000) (ih : ∀ w, Calls Tryz.prog 127 #[.int .i64 (n / 10)] w fun e w' => e = .returned (.string ⟨(Lib.itoa (n / 10)).toArray⟩) ∧ Below w.heap.size w w') :
    Calls Tryz.prog 127 #[.int .i64 n] w fun e w' => e = .returned (.string ⟨(Lib.itoa n).toArray⟩) ∧ Below w.heap.size w w' := by
  have hcv : ∀ W : World, Sem.run Tryz.prog (convert 40 9 (.slice (some ⟨W.heap.size, 0, none⟩) 1 1)) (W.alloc (.cells #[.int .u8 (48 + n % 10)] 5)) = .ok (.string ⟨#[UInt8.ofNat (48 + n % 10).toNat]⟩) (W.alloc (.cells #[.int .u8 (48 + n % 10)] 5)) := fun W => conv1_new W _ (by omega) (by omega)
  have hcd : ∀ W : World, Sem.run Tryz.prog (convert 40 9 (.slice (some ⟨W.heap.size, 0, none⟩) 1 1)) (W.alloc (.cells #[.int .u8 (48 + n % 10)] 5)).drew = .ok (.string ⟨#[UInt8.ofNat (48 + n % 10).toNat]⟩) (W.alloc (.cells #[.int .u8 (48 + n % 10)] 5)).drew := fun W => conv1 _ _ _ (by omega) (by omega) (by simp)
  have hw1 : IntKind.i64.wrap (n / 10) = n / 10 := by rw [IntKind.wrap_i64]; omega
  have hw2 : IntKind.i64.wrap (48 + n % 10) = 48 + n % 10 := by rw [IntKind.wrap_i64]; omega
  have hw3 : IntKind.u8.wrap (48 + n % 10) = 48 + n % 10 := by rw [IntKind.wrap_u8']; omega
  have g0 : (0 : Int) ≤ 48 + n % 10 := by omega
  have g1 : 48 + n % 10 < (256 : Int) := by omega
  have hd := tdiv10 (n := n) (by omega)
  have hm := tmod10 (n := n) (by omega)
  have hl := Lib.itoa_length_le (n / 10) (by omega) (by omega)
  rw [itoa_more h0]
  go_enter Tryz.func127, Tryz.ntmps127
  go_wp2_with fail
  go_region_with (go_at_call 127; refine (ih _).mono ?_; rintro e w1 ⟨rfl, hb1⟩; first | (have hx := conv_after (48 + n % 10) g0 g1 hb1) | skip)
  all_goals
    clear hcv hcd hw1 hw2 hw3 g0 g1 hd hm ih
    go_wp2
    go_ret
    refine ⟨by rw [← app_bytes]; rfl, ?_⟩
    first
      | exact ((Below.refl _ _).drew.trans hb1).alloc hb1.size _
      | exact ((Below.refl w.heap.size w).alloc (Nat.le_refl _) _).drew.trans (hb1.mono (by simp))
set_option maxRecDepth 100000 in
theorem dig_neg (n : Int) (w : World) (h0 : n < 0) (h1 : -1000000000 ≤ n) (ih : ∀ w, Calls Tryz.prog 127 #[.int .i64 (-n)] w fun e w' => e = .returned (.string ⟨(Lib.itoa (-n)).toArray⟩) ∧ Below w.heap.size w w') :
    Calls Tryz.prog 127 #[.int .i64 n] w fun e w' => e = .returned (.string ⟨(Lib.itoa n).toArray⟩) ∧ Below w.heap.size w w' := by
  have hl := Lib.itoa_length_le (-n) (by omega) (by omega)
  rw [itoa_minus h0]
  go_enter Tryz.func127, Tryz.ntmps127
  go_wp2_with (go_at_call 127; refine (ih _).mono ?_; rintro e w1 ⟨rfl, hb1⟩)
  go_ret
  exact ⟨by rw [show (⟨#[45]⟩ : ByteArray) = ⟨[45].toArray⟩ from rfl, app_bytes]; rfl, hb1⟩
theorem dig_nat (N : Nat) : ∀ (m : Nat), m ≤ N → (m : Int) ≤ 1000000000 → ∀ w : World, Calls Tryz.prog 127 #[.int .i64 (m : Int)] w fun e w' => e = .returned (.string ⟨(Lib.itoa (m : Int)).toArray⟩) ∧ Below w.heap.size w w' := by
  induction N with
  | zero => intro m hm _ w; exact dig_one _ _ (by omega) (by omega)
  | succ N ih =>
    intro m hm hm2 w
    by_cases h : m < 10
    · exact dig_one _ _ (by omega) (by omega)
    · exact dig_more _ _ (by omega) hm2 (fun w => by
        have := ih (m / 10) (by omega) (by omega) w
        rw [show ((m / 10 : Nat) : Int) = (m : Int) / 10 by omega] at this
        exact this)
theorem c_dig (n : Int) (w : World) (h0 : -1000000000 ≤ n) (h1 : n ≤ 1000000000) :
    Calls Tryz.prog 127 #[.int .i64 n] w fun e w' => e = .returned (.string ⟨(Lib.itoa n).toArray⟩) ∧ Below w.heap.size w w' := by
  have pos : ∀ (m : Int), 0 ≤ m → m ≤ 1000000000 → ∀ w : World, Calls Tryz.prog 127 #[.int .i64 m] w fun e w' => e = .returned (.string ⟨(Lib.itoa m).toArray⟩) ∧ Below w.heap.size w w' := fun m a b w => by
    obtain ⟨q, rfl⟩ : ∃ q : Nat, m = (q : Int) := ⟨m.toNat, by omega⟩
    exact dig_nat q q (Nat.le_refl _) b w
  by_cases h : n < 0
  · exact dig_neg n w h h0 (pos (-n) (by omega) (by omega))
  · exact pos n (by omega) h1 w
end Go.Proofs.YtbpfpjmjmkpjoaaGreatDoor
