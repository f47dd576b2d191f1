/-
  The walks of Check32: the program's, by half bytes, and the specification's, by bits.
-/
import Derived.Test.YtcokbogicbdoaaaDoorZzab
import Derived.Test.YtcokbogicbdoaaaDoorZzaa
import Derived.Laws.BitsAllLaws
namespace Go.Proofs.YtcokbogicbdoaaaDoor
open Go Go.RowKit

/-- The slice at a, of n elements, reads as the bytes zs. -/
def Rd (w : World) (a : Option Addr) (n : Nat) (zs : List Int) : Prop :=
  zs.length = n ∧ (∀ z ∈ zs, 0 ≤ z ∧ z < 256) ∧ (0 < n → ∃ b off, a = some ⟨b, off, none⟩ ∧ ∀ i, i < n → w.cell? ⟨b, off + i, none⟩ = some (.int .u8 (zs.getD i 0)))
theorem Rd.below {w w' : World} {a : Option Addr} {n : Nat} {zs : List Int} (h : Rd w a n zs) (hb : Below w.heap.size w w') : Rd w' a n zs := by
  obtain ⟨h1, h2, h3⟩ := h
  refine ⟨h1, h2, fun hn => ?_⟩
  obtain ⟨b, off, e, hc⟩ := h3 hn
  exact ⟨b, off, e, fun i hi => (hb.cell (p := ⟨b, off + i, none⟩) (World.block_lt_of_cell? w ⟨b, off, none⟩ (by simpa using hc 0 hn))).trans (hc i hi)⟩
theorem Rd.bd {w : World} {a : Option Addr} {n : Nat} {zs : List Int} (h : Rd w a n zs) (i : Nat) : 0 ≤ zs.getD i 0 ∧ zs.getD i 0 < 256 := by
  by_cases hi : i < zs.length
  · rw [List.getD_eq_getElem?_getD, List.getElem?_eq_getElem hi]; exact h.2.1 _ (List.getElem_mem hi)
  · rw [List.getD_eq_getElem?_getD, List.getElem?_eq_none (by omega)]; simp
theorem rd_of_V {w : World} {a : Option Addr} {n : Nat} {zs : List Int} (h : RdV w a n (zs.map (Value.int .u8))) (hz : ∀ z ∈ zs, 0 ≤ z ∧ z < 256) : Rd w a n zs := by
  obtain ⟨hl, hc⟩ := h
  simp only [List.length_map] at hl
  refine ⟨hl, hz, fun hn => ?_⟩
  obtain ⟨b, off, e, _, hc⟩ := hc hn
  exact ⟨b, off, e, fun i hi => by rw [hc i hi]; exact map_get _ _ _ _ (by omega)⟩
theorem ret_i {a b : Int} (h : a = b) : Ending.returned (.int .i64 a) = .returned (.int .i64 b) := by rw [h]
theorem wrap_i64_small (n : Nat) (h : n < 9223372036854775808) : IntKind.i64.wrap (n : Int) = n := by rw [IntKind.wrap_i64]; omega
theorem xor_i64 (a b : Nat) (ha : a < 4294967296) (hb : b < 4294967296) : bits .xor .i64 (a : Int) (b : Int) = ((a ^^^ b : Nat) : Int) := by
  have hx : a ^^^ b < 2 ^ 32 := Nat.xor_lt_two_pow (by omega) (by omega)
  have h1 : (BitVec.ofInt 64 (a : Int)).toNat = a := by
    rw [BitVec.ofInt_natCast, BitVec.toNat_ofNat]; exact Nat.mod_eq_of_lt (by omega)
  have h2 : (BitVec.ofInt 64 (b : Int)).toNat = b := by
    rw [BitVec.ofInt_natCast, BitVec.toNat_ofNat]; exact Nat.mod_eq_of_lt (by omega)
  show IntKind.i64.wrap ((BitVec.ofInt 64 (a : Int) ^^^ BitVec.ofInt 64 (b : Int)).toNat : Int) = _
  rw [BitVec.toNat_xor, h1, h2]
  exact wrap_i64_small _ (by omega)
theorem and1_i64 (a : Nat) (ha : a < 4294967296) : bits .and .i64 (a : Int) 1 = ((a % 2 : Nat) : Int) := by
  have h1 : (BitVec.ofInt 64 (a : Int)).toNat = a := by
    rw [BitVec.ofInt_natCast, BitVec.toNat_ofNat]; exact Nat.mod_eq_of_lt (by omega)
  have h2 : (BitVec.ofInt 64 (1 : Int)).toNat = 1 := rfl
  show IntKind.i64.wrap ((BitVec.ofInt 64 (a : Int) &&& BitVec.ofInt 64 (1 : Int)).toNat : Int) = _
  rw [BitVec.toNat_and, h1, h2, Nat.and_one_is_mod]
  exact wrap_i64_small _ (by omega)
def it : Nat → Nat → Nat
  | 0, m => m
  | j + 1, m => Crc.st (it j m)
theorem it_lt {m : Nat} (h : m < 4294967296) : ∀ j, it j m < 4294967296
  | 0 => h
  | j + 1 => Crc.st_lt (it_lt h j)
theorem it_eight (r c : Nat) : it 8 (r ^^^ c) = Crc.stB r c := Crc.eight r c

theorem step_val {y i m : Nat} (hy : y = it i m) (hl : y < 4294967296) : Value.int .i64 (bits .xor .i64 ((y : Int) / 2) ((y : Int) % 2 * 3988292384)) = Value.int .i64 (it (i + 1) m : Nat) := by
  have e1 : ((y : Int) / 2) = ((y / 2 : Nat) : Int) := by omega
  have e2 : ((y : Int) % 2 * 3988292384) = ((y % 2 * 3988292384 : Nat) : Int) := by omega
  rw [e1, e2, xor_i64 _ _ (by omega) (by omega), hy]
  rfl
theorem run_take {zs : List Int} {k : Nat} (h : k < zs.length) : Crc.run (zs.take (k + 1)) = Crc.stB (Crc.run (zs.take k)) (zs.getD k 0).toNat := by
  rw [List.take_succ_eq_append_getElem h, Crc.run_snoc, List.getD_eq_getElem?_getD, List.getElem?_eq_getElem h]
  rfl
theorem round_val {zs : List Int} {n k r c m y : Nat} (hl : zs.length = n) (hk : k < n) (hr : r = Crc.run (zs.take k)) (hz : (c : Int) = zs.getD k 0) (hm : m = r ^^^ c) (hy : y = it 8 m) : Value.int .i64 (y : Int) = Value.int .i64 (Crc.run (zs.take (k + 1)) : Nat) := by
  rw [run_take (by omega), ← hz, ← hr, hy, hm, it_eight]
  rfl
theorem end_val {zs : List Int} {k r : Nat} (hl : zs.length = k) (hr : r = Crc.run (zs.take k)) (hrl : r < 4294967296) : bits .xor .i64 (r : Int) 4294967295 = (Crc.crc zs : Nat) := by
  have := xor_i64 r 4294967295 hrl (by omega)
  rw [List.take_of_length_le (by omega)] at hr
  unfold Crc.crc
  rw [← hr]
  exact this

set_option maxRecDepth 100000 in
set_option maxHeartbeats 1000000 in
theorem c14 (a : Option Addr) (n cap : Nat) (zs : List Int) (w : World) (hr : Rd w a n zs) (hn : n ≤ 1048576) :
    Calls Tryd.prog 69 #[.slice a n cap] w fun e w' => e = .returned (.int .i64 (Crc.crc zs)) ∧ w' = w := by
  have hbd := hr.bd
  obtain ⟨hl, hzb, hcs⟩ := hr
  go_enter Tryd.func69, Tryd.ntmps69
  go_wp2
  go_loop [3, 4] (fun r i => ∃ k : Nat, k ≤ n ∧ i = .int .i64 k ∧ r = .int .i64 (Crc.run (zs.take k))) (fun _ i => n - (intOf i).toNat)
  case atStart => exact ⟨0, by omega, rfl, rfl⟩
  case round =>
    obtain ⟨k, hk, rfl, rfl⟩ := hrel
    obtain ⟨r, hr⟩ : ∃ r, r = Crc.run (zs.take k) := ⟨_, rfl⟩
    rw [← hr]
    have hrl : r < 4294967296 := by rw [hr]; exact Crc.run_lt _ fun z hz => hzb z (List.mem_of_mem_take hz)
    have HR : Hid (r = _) := hr
    clear hr
    by_cases hlt : k < n
    · obtain ⟨b, off, rfl, hc⟩ := hcs (by omega)
      obtain ⟨z, hz⟩ : ∃ z, z = zs.getD k 0 := ⟨_, rfl⟩
      have hck : w.cell? ⟨b, off + k, none⟩ = some (.int .u8 z) := by rw [hz]; exact hc k hlt
      have hz0 : 0 ≤ z ∧ z < 256 := by rw [hz]; exact hbd k
      have HZ : Hid (z = _) := hz
      clear hc hcs hz hbd hzb
      obtain ⟨c, rfl⟩ := Int.eq_ofNat_of_zero_le hz0.1
      obtain ⟨m, hm, HM⟩ : ∃ m : Nat, bits .xor .i64 (r : Int) (c : Int) = (m : Int) ∧ Hid (m = r ^^^ c) := ⟨_, xor_i64 r c hrl (by omega), rfl⟩
      have hml : m < 4294967296 := by rw [HM.out]; exact Nat.xor_lt_two_pow (n := 32) hrl (by omega)
      go_wp2
      go_loop [3, 5] (fun x j => ∃ i : Nat, i ≤ 8 ∧ j = .int .i64 i ∧ x = .int .i64 (it i m)) (fun _ j => 8 - (intOf j).toNat)
      case atStart => exact ⟨0, by omega, rfl, rfl⟩
      case round =>
        obtain ⟨i, hi, rfl, rfl⟩ := hrel
        obtain ⟨y, hy⟩ : ∃ y, y = it i m := ⟨_, rfl⟩
        rw [← hy]
        have hyl : y < 4294967296 := by rw [hy]; exact it_lt hml i
        have HY : Hid (y = _) := hy
        clear hy
        by_cases hi8 : i < 8
        · have h1 := and1_i64 y hyl
          go_wp2
          go_round
          case rel =>
            exact ⟨i + 1, by omega, by go_num, step_val HY.out hyl⟩
          case measure => simp [intOf]; omega
        · have e8 : i = 8 := by omega
          subst e8
          go_wp2
          go_round
          case rel => exact ⟨k + 1, by omega, by go_num, round_val hl hlt HR.out HZ.out HM.out HY.out⟩
          case measure => simp [intOf]; omega
    · have ek : k = n := by omega
      subst ek
      go_wp2
      go_ret
      exact ⟨ret_i (end_val hl HR.out hrl), rfl⟩

/-- What both answer. -/
def sumI (zs : List Int) (n : Nat) : Int := if 65536 < n then 0 else (Crc.crc zs : Nat)
theorem sum_hi {zs : List Int} {n : Nat} (h : 65536 < n) : sumI zs n = 0 := by unfold sumI; rw [if_pos h]
theorem sum_lo {zs : List Int} {n : Nat} (h : ¬ 65536 < n) : sumI zs n = (Crc.crc zs : Nat) := by unfold sumI; rw [if_neg h]

/-- The program's table of half bytes, as the world holds it. -/
def TabH (w : World) : Prop := ∀ i, i < 16 → w.cell? ⟨0, i, none⟩ = some (.int .u32 (Crc.tabL.getD i 0 : Nat))

theorem and15_u32 (y : Nat) (h : y < 4294967296) : bits .and .u32 (y : Int) 15 = ((y % 16 : Nat) : Int) := by
  have := u32_and_nat y 15 h (by decide)
  rw [Nat.and_two_pow_sub_one_eq_mod y 4] at this
  exact this

theorem half_step {w : World} (ht : TabH w) (y : Nat) (hy : y < 4294967296) : ∃ t : Nat, w.cell? ⟨0, y % 16, none⟩ = some (.int .u32 (t : Int)) ∧ ∃ h : Nat, bits .xor .u32 ((y : Int) / 16) (t : Int) = (h : Int) ∧ h < 4294967296 ∧ Hid (h = Crc.half y) := by
  have hs : y % 16 < 16 := Nat.mod_lt _ (by omega)
  refine ⟨Crc.tabL.getD (y % 16) 0, ht _ hs, Crc.half y, ?_, Crc.half_lt hy, rfl⟩
  have e1 : ((y : Int) / 16) = ((y / 16 : Nat) : Int) := by omega
  rw [e1, u32_xor_nat _ _ (by omega) (Crc.tab_lt _ hs)]
  rfl
theorem round_val12 {zs : List Int} {n k r c m h1 h2 : Nat} (hl : zs.length = n) (hk : k < n) (hr : r = Crc.run (zs.take k)) (hz : (c : Int) = zs.getD k 0) (hm : m = r ^^^ c) (e1 : h1 = Crc.half m) (e2 : h2 = Crc.half h1) : Value.int .u32 (h2 : Int) = Value.int .u32 (Crc.run (zs.take (k + 1)) : Nat) := by
  rw [run_take (by omega), ← hz, ← hr, e2, e1, hm]
  rfl
theorem end_val12 {zs : List Int} {k r m : Nat} (hl : zs.length = k) (hr : r = Crc.run (zs.take k)) (hm : m = r ^^^ 4294967295) : (m : Int) = (Crc.crc zs : Nat) := by
  rw [List.take_of_length_le (by omega)] at hr
  unfold Crc.crc
  rw [← hr, hm]

set_option maxRecDepth 100000 in
set_option maxHeartbeats 1000000 in
theorem c12_lo (a : Option Addr) (n cap : Nat) (zs : List Int) (w : World) (hr : Rd w a n zs) (hn : ¬ 65536 < n) (ht : TabH w) :
    Calls Tryd.prog 92 #[.slice a n cap] w fun e w' => e = .returned (.int .i64 (Crc.crc zs : Nat)) ∧ w' = w := by
  have hbd := hr.bd
  obtain ⟨hl, hzb, hcs⟩ := hr
  go_enter Tryd.func92, Tryd.ntmps92
  go_wp2
  go_loop [3, 11] (fun r i => ∃ k : Nat, k ≤ n ∧ i = .int .i64 k ∧ r = .int .u32 (Crc.run (zs.take k))) (fun _ i => n - (intOf i).toNat)
  case atStart => exact ⟨0, by omega, rfl, rfl⟩
  case round =>
    obtain ⟨k, hk, rfl, rfl⟩ := hrel
    obtain ⟨r, hr⟩ : ∃ r, r = Crc.run (zs.take k) := ⟨_, rfl⟩
    rw [← hr]
    have hrl : r < 4294967296 := by rw [hr]; exact Crc.run_lt _ fun z hz => hzb z (List.mem_of_mem_take hz)
    have HR : Hid (r = _) := hr
    clear hr
    by_cases hlt : k < n
    · obtain ⟨b, off, rfl, hc⟩ := hcs (by omega)
      obtain ⟨z, hz⟩ : ∃ z, z = zs.getD k 0 := ⟨_, rfl⟩
      have hck : w.cell? ⟨b, off + k, none⟩ = some (.int .u8 z) := by rw [hz]; exact hc k hlt
      have hz0 : 0 ≤ z ∧ z < 256 := by rw [hz]; exact hbd k
      have HZ : Hid (z = _) := hz
      have HT : Hid (TabH w) := ht
      clear hc hcs hz hbd hzb ht
      obtain ⟨c, rfl⟩ := Int.eq_ofNat_of_zero_le hz0.1
      obtain ⟨m, hm, HM⟩ : ∃ m : Nat, bits .xor .u32 (r : Int) (c : Int) = (m : Int) ∧ Hid (m = r ^^^ c) := ⟨_, u32_xor_nat r c hrl (by omega), rfl⟩
      have hml : m < 4294967296 := by rw [HM.out]; exact Nat.xor_lt_two_pow (n := 32) hrl (by omega)
      obtain ⟨t1, hc1, h1, hx1, h1l, H1⟩ := half_step HT.out m hml
      obtain ⟨t2, hc2, h2, hx2, h2l, H2⟩ := half_step HT.out h1 h1l
      have h15 := and15_u32 m hml
      have h15' := and15_u32 h1 h1l
      go_wp2
      go_round
      case rel => exact ⟨k + 1, by omega, by go_num, round_val12 hl hlt HR.out HZ.out HM.out H1.out H2.out⟩
      case measure => simp [intOf]; omega
    · have ek : k = n := by omega
      subst ek
      obtain ⟨m, hm, HM⟩ : ∃ m : Nat, bits .xor .u32 (r : Int) 4294967295 = (m : Int) ∧ Hid (m = r ^^^ 4294967295) := ⟨_, u32_xor_nat r 4294967295 hrl (by decide), rfl⟩
      have hml : m < 4294967296 := by rw [HM.out]; exact Nat.xor_lt_two_pow (n := 32) hrl (by decide)
      go_wp2
      go_ret
      exact ⟨ret_i (end_val12 hl HR.out HM.out), rfl⟩

theorem c12 (a : Option Addr) (n cap : Nat) (zs : List Int) (w : World) (hr : Rd w a n zs) (hn : n ≤ 1048576) (ht : TabH w) :
    Calls Tryd.prog 92 #[.slice a n cap] w fun e w' => e = .returned (.int .i64 (sumI zs n)) ∧ w' = w := by
  by_cases h : 65536 < n
  · have e : Hid (_ = _) := sum_hi (zs := zs) h
    clear ht
    go_enter Tryd.func92, Tryd.ntmps92
    go_wp2
    go_ret
    exact ⟨ret_i e.out.symm, rfl⟩
  · rw [sum_lo h]
    exact c12_lo a n cap zs w hr h ht
theorem TabH.below {w w' : World} (h : TabH w) (hb : Below w.heap.size w w') : TabH w' := fun i hi =>
  (hb.cell (p := ⟨0, i, none⟩) (World.block_lt_of_cell? w ⟨0, i, none⟩ (h i hi))).trans (h i hi)
theorem TabH.lt {w : World} (h : TabH w) : 0 < w.heap.size := World.block_lt_of_cell? w ⟨0, 0, none⟩ (h 0 (by omega))
theorem TabH.belowB {w w' : World} {B : Nat} (h : TabH w) (hb : Below B w w') (hB : 0 < B) : TabH w' := fun i hi => (hb.cell (p := ⟨0, i, none⟩) hB).trans (h i hi)
end Go.Proofs.YtcokbogicbdoaaaDoor
