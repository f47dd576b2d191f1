/-
  Plain arithmetic of the sum: four steps by single bits are one step by the table of half bytes.
-/
import Derived.Test.YtkpopingbbaomaaGreatDoorProg
import Derived.WalkKit
import Derived.WalkSpells
import Derived.WalkLawsBesides
import Derived.Deep.QuietTactic
import Derived.BigQuiet
namespace Go.Proofs.YtkpopingbbaomaaGreatDoor
open Go Go.RowKit

theorem ret_bool {a b : Bool} (h : a = b) : Ending.returned (.bool a) = .returned (.bool b) := by rw [h]
theorem ret_int {a b : Int} (h : a = b) : Ending.returned (.int .i64 a) = .returned (.int .i64 b) := by rw [h]
def inB (n lo hi : Int) : Bool := decide (lo ≤ n ∧ n ≤ hi)
theorem c_in (n lo hi : Int) (w : World) : Calls Tryz.prog 53 #[.int .i64 n, .int .i64 lo, .int .i64 hi] w fun e w' => e = .returned (.bool (inB n lo hi)) ∧ w' = w := by
  by_cases h1 : lo ≤ n <;> by_cases h2 : n ≤ hi
  all_goals
    go_enter Tryz.func53, Tryz.ntmps53
    go_wp2
    go_ret
    exact ⟨ret_bool (by simp [inB, h1, h2]), rfl⟩
end Go.Proofs.YtkpopingbbaomaaGreatDoor
namespace Go.Proofs.YtkpopingbbaomaaGreatDoor
open Go Go.RowKit

/-- The slice at a, of n elements of one cell each, reads as xs. -/
def RdV (w : World) (a : Option Addr) (n : Nat) (xs : List Value) : Prop :=
  xs.length = n ∧ (0 < n → ∃ b off, a = some ⟨b, off, none⟩ ∧ b < w.heap.size ∧ ∀ i, i < n → w.cell? ⟨b, off + i, none⟩ = xs[i]?)
theorem RdV.below {w w' : World} {a : Option Addr} {n : Nat} {xs : List Value} (h : RdV w a n xs) (hb : Below w.heap.size w w') : RdV w' a n xs := by
  obtain ⟨h1, h3⟩ := h
  refine ⟨h1, fun hn => ?_⟩
  obtain ⟨b, off, e, hlt, hc⟩ := h3 hn
  exact ⟨b, off, e, Nat.lt_of_lt_of_le hlt hb.size, fun i hi => (hb.cell (p := ⟨b, off + i, none⟩) hlt).trans (hc i hi)⟩
theorem RdV.grown {w w' : World} {row : Option Nat} {a : Option Addr} {n : Nat} {xs : List Value} (h : RdV w a n xs) (hg : w.grownBy w' row) (hne : ∀ x, a = some x → some x.block ≠ row) : RdV w' a n xs := by
  obtain ⟨h1, h3⟩ := h
  refine ⟨h1, fun hn => ?_⟩
  obtain ⟨b, off, e, hlt, hc⟩ := h3 hn
  exact ⟨b, off, e, Nat.lt_of_lt_of_le hlt hg.size, fun i hi => (World.cell?_of_block (hg.block b hlt (hne _ e))).trans (hc i hi)⟩
/-- A row of the call's own reads so. -/
theorem RdV.own {w : World} {base e n : Nat} {a : Option Addr} {m cap : Nat} {xs : List Value} (h : w.ownsRow base e 1 (.slice a m cap) n xs) : RdV w a m xs := by
  have hl : xs.length = n := by have := h.1; simpa using this
  rcases h.2 with ⟨hv, h0⟩ | ⟨g, cap', cur, hv, hb, hg, hnc, hcm, hcs, htake⟩
  · simp only [Value.slice.injEq] at hv
    obtain ⟨rfl, rfl, rfl⟩ := hv
    exact ⟨by omega, fun h => absurd h (by omega)⟩
  · simp only [Value.slice.injEq] at hv
    obtain ⟨rfl, rfl, rfl⟩ := hv
    refine ⟨hl, fun _ => ⟨g, 0, rfl, ?_, fun i hi => ?_⟩⟩
    · rcases Nat.lt_or_ge g w.heap.size with h1 | h1
      · exact h1
      · rw [Array.getElem?_eq_none h1] at hg; cases hg
    · rw [Nat.zero_add]; exact h.cellAt i (by omega)
/-- The forms that a row of the call's own takes. -/
theorem own_form {w : World} {base e size n : Nat} {v : Value} {xs : List Value} (h : w.ownsRow base e size v n xs) :
    (v = .slice none 0 0 ∧ n = 0) ∨ ∃ g cap, v = .slice (some ⟨g, 0, none⟩) n cap ∧ base ≤ g ∧ g < w.heap.size := by
  rcases h.2 with h0 | ⟨g, cap, cur, hv, hb, hg, _⟩
  · exact .inl h0
  · refine .inr ⟨g, cap, hv, hb, ?_⟩
    rcases Nat.lt_or_ge g w.heap.size with h1 | h1
    · exact h1
    · rw [Array.getElem?_eq_none h1] at hg; cases hg
theorem below_drewN {B : Nat} {a w : World} (h : Below B a w) (q : Nat) : Below B a (w.drewN q) := ⟨h.os, h.tape, h.output, h.size, h.block⟩
def partV (z : Value) (xs : List Value) (n k : Nat) : List Value := xs.take k ++ List.replicate (n - k) z
theorem partV_zero (z : Value) (hz : z.cells = #[z]) (xs : List Value) (n : Nat) : (madeCells z.cells (n * 1)).toList = partV z xs n 0 := by
  rw [Nat.mul_one, hz, toList_madeCells_one]; simp [partV]
theorem partV_step (z : Value) (xs : List Value) (n k : Nat) (v : Value) (hz : xs.length = n) (hk : k < n) (hv : xs[k]? = some v) : (partV z xs n k).set k v = partV z xs n (k + 1) := by
  unfold partV
  have hl : (xs.take k).length = k := by simp; omega
  rw [List.set_append, if_neg (by omega), hl, Nat.sub_self]
  obtain ⟨m, hm⟩ : ∃ m, n - k = m + 1 := ⟨n - k - 1, by omega⟩
  have hm' : n - (k + 1) = m := by omega
  rw [hm, hm', List.replicate_succ, List.set_cons_zero, List.take_add_one, hv, List.append_assoc]
  rfl
theorem partV_full (z : Value) (xs : List Value) (n : Nat) (hz : xs.length = n) : partV z xs n n = xs := by
  unfold partV; rw [List.take_of_length_le (by omega), Nat.sub_self]; simp
theorem map_get {α : Type} (f : α → Value) (l : List α) (d : α) (k : Nat) (h : k < l.length) : (l.map f)[k]? = some (f (l.getD k d)) := by
  rw [List.getElem?_map, List.getElem?_eq_getElem h, List.getD_eq_getElem?_getD, List.getElem?_eq_getElem h]; rfl

/-! ### B -/
theorem infoB : (Tryz.prog.info? 5).map (fun i => (i.zero, i.size, i.bytes)) = some (some (Value.int .u8 0), 1, 1) := by kernel_rfl
def sameToB (zs zs' : List (Int)) (k : Nat) : Prop := ∀ j, j < k → zs.getD j (0) = zs'.getD j (0)
theorem same_allB {zs zs' : List (Int)} (hl : zs.length = zs'.length) (h : sameToB zs zs' zs.length) : zs = zs' := by
  apply List.ext_getElem hl
  intro i h1 h2
  have := h i h1
  rwa [List.getD_eq_getElem?_getD, List.getElem?_eq_getElem h1, List.getD_eq_getElem?_getD, List.getElem?_eq_getElem h2] at this

theorem toList_inj {a b : ByteArray} (h : a.toList = b.toList) : a = b := by
  rw [ByteArray.toList_eq, ByteArray.toList_eq] at h
  cases a; cases b; simp at h; rw [h]

/-! ### S -/
theorem infoS : (Tryz.prog.info? 9).map (fun i => (i.zero, i.size, i.bytes)) = some (some (Value.string ⟨#[]⟩), 1, 16) := by kernel_rfl
set_option maxHeartbeats 1000000 in
theorem c_toS (a : Option Addr) (n cap : Nat) (ss : List (ByteArray)) (w : World) (hr : RdV w a n (ss.map Value.string)) (hn : n ≤ 1048576) :
    Calls Tryz.prog 180 #[.slice a n cap] w fun e w' => e = .returned (.slice (some ⟨w.heap.size, 0, none⟩) n n) ∧ w'.ownsRow w.heap.size 9 1 (.slice (some ⟨w.heap.size, 0, none⟩) n n) n (ss.map Value.string) ∧ Below w.heap.size w w' := by
  obtain ⟨hl, hcs⟩ := hr
  obtain ⟨i0, hi, hz0, hz1, hz2⟩ := info_parts infoS
  go_enter Tryz.func180, Tryz.ntmps180
  go_wp2_with (at_make; refine wpList_make_full _ rfl (.tmp 6) (.tmp 6) 22 rfl w.heap.size 9 i0 (Value.string ⟨#[]⟩) 1 Tryz.underlying22 hi hz0 hz1 .i64 .i64 _ _ n rfl rfl rfl rfl (by rw [hz2]; omega) (by unfold maxLen; omega) (Nat.le_refl _) ?_; intro w1 hown hgrow)
  go_loopw [4] (fun i wr => ∃ k : Nat, k ≤ n ∧ i = .int .i64 k ∧ wr.ownsRow w.heap.size 9 1 (.slice (some ⟨w.heap.size, 0, none⟩) n n) n (partV (Value.string ⟨#[]⟩) (ss.map Value.string) n k) ∧ Below w.heap.size w wr) (fun i _ => n - (intOf i).toNat)
  case atStart => exact ⟨0, by omega, rfl, by rw [← partV_zero (Value.string ⟨#[]⟩) rfl (ss.map Value.string) n]; exact hown, (Below.refl _ _).grown hgrow (Nat.le_refl _) (fun k h => by cases h)⟩
  case round =>
    obtain ⟨k, hk, rfl, hown, hb⟩ := hrel
    by_cases hlt : k < n
    · obtain ⟨b, off, rfl, hbl, hc⟩ := hcs (by omega)
      obtain ⟨x, hx⟩ : ∃ x, x = ss.getD k (⟨#[]⟩) := ⟨_, rfl⟩
      have hg : (ss.map Value.string)[k]? = some (Value.string x) := by rw [hx]; exact map_get _ _ _ _ (by simpa using (show k < (ss.map Value.string).length by omega))
      have hck : wr.cell? ⟨b, off + k, none⟩ = some (Value.string x) := by rw [hb.cell (p := ⟨b, off + k, none⟩) hbl, hc k hlt, hg]
      obtain ⟨old, hold⟩ : ∃ old, wr.cell? ⟨w.heap.size, k, none⟩ = some old := by
        rw [hown.cellAt k (by omega)]
        exact ⟨_, List.getElem?_eq_getElem (by rw [hown.1]; omega)⟩
      have hfz := hown.frozenAt k
      have hown2 := (hown.stored k (Value.string x)).1
      rw [partV_step _ _ n k _ hl hlt hg] at hown2
      have HO : Hid (_) := hown2
      clear hown2 hc hcs hgrow hx hg
      go_wp2
      go_roundw
      case rel => exact ⟨k + 1, by omega, by go_num, HO.out, hb.setCell (Nat.le_refl _) _⟩
      case measure => simp [intOf]; omega
    · have e : k = n := by omega
      subst e
      rw [partV_full _ _ k hl] at hown
      go_wp2
      go_ret
      exact ⟨rfl, hown, hb⟩

def sameToS (zs zs' : List (ByteArray)) (k : Nat) : Prop := ∀ j, j < k → zs.getD j (⟨#[]⟩) = zs'.getD j (⟨#[]⟩)
theorem same_allS {zs zs' : List (ByteArray)} (hl : zs.length = zs'.length) (h : sameToS zs zs' zs.length) : zs = zs' := by
  apply List.ext_getElem hl
  intro i h1 h2
  have := h i h1
  rwa [List.getD_eq_getElem?_getD, List.getElem?_eq_getElem h1, List.getD_eq_getElem?_getD, List.getElem?_eq_getElem h2] at this

set_option maxHeartbeats 1000000 in
theorem c_eqS (a a' : Option Addr) (n cap n' cap' : Nat) (zs zs' : List (ByteArray)) (w : World) (hr : RdV w a n (zs.map Value.string)) (hr' : RdV w a' n' (zs'.map Value.string)) (hn : n ≤ 1048576) (hn' : n' ≤ 1048576) :
    Calls Tryz.prog 187 #[.slice a n cap, .slice a' n' cap'] w fun e w' => e = .returned (.bool (decide (zs = zs'))) ∧ ∃ q, w' = w.drewN q := by
  obtain ⟨hl, hcs⟩ := hr
  obtain ⟨hl', hcs'⟩ := hr'
  simp only [List.length_map] at hl hl'
  by_cases hnn : n = n'
  · subst hnn
    have hll : zs.length = zs'.length := by omega
    go_enter Tryz.func187, Tryz.ntmps187
    go_wp2
    go_loopw [5] (fun i wr => ∃ k : Nat, k ≤ n ∧ i = .int .i64 k ∧ Hid (sameToS zs zs' k) ∧ ∃ q, wr = w.drewN q) (fun i _ => n - (intOf i).toNat)
    case atStart => exact ⟨0, by omega, rfl, fun j h => absurd h (by omega), 0, rfl⟩
    case round =>
      obtain ⟨k, hk, rfl, HS, q, rfl⟩ := hrel
      by_cases hlt : k < n
      · obtain ⟨b, off, rfl, _, hc⟩ := hcs (by omega)
        obtain ⟨b', off', rfl, _, hc'⟩ := hcs' (by omega)
        obtain ⟨z, hz⟩ : ∃ z, z = zs.getD k (⟨#[]⟩) := ⟨_, rfl⟩
        obtain ⟨z', hz'⟩ : ∃ z, z = zs'.getD k (⟨#[]⟩) := ⟨_, rfl⟩
        have hck : w.cell? ⟨b, off + k, none⟩ = some (Value.string z) := by rw [hz, hc k hlt]; exact map_get _ _ _ _ (by omega)
        have hck' : w.cell? ⟨b', off' + k, none⟩ = some (Value.string z') := by rw [hz', hc' k hlt]; exact map_get _ _ _ _ (by omega)
        have g1 : (0 : Int) ≤ (k : Int) := by omega
        have g2 : (k : Int) < (n : Int) := by omega
        have HZ : Hid (z = zs.getD k (⟨#[]⟩)) := hz
        have HZ' : Hid (z' = zs'.getD k (⟨#[]⟩)) := hz'
        clear hc hc' hcs hcs' hz hz'
        by_cases he : z = z'
        · have HE : Hid (z = z') := he
          have he1 : (z.toList == z'.toList) = true := by simp [he]
          clear he
          go_wp2_with fail
          go_quiet (fail)
          go_wp2
          go_roundw
          case rel => exact ⟨k + 1, by omega, by go_num, fun j hj => if e : j = k then by rw [e, ← HZ.out, ← HZ'.out]; exact HE.out else HS.out j (by omega), _, rfl⟩
          case measure => simp [intOf]; omega
        · have HE : Hid (¬ z = z') := he
          have he1 : (z.toList == z'.toList) = false := by rw [beq_eq_false_iff_ne]; exact fun e => he (toList_inj e)
          clear he
          go_wp2_with fail
          go_quiet (fail)
          go_wp2
          go_ret
          exact ⟨ret_bool (decide_eq_false fun e => HE.out (by rw [HZ.out, HZ'.out, e])).symm, _, World.drewN_drewN _ _ _⟩
      · have e : k = n := by omega
        subst e
        go_wp2
        go_ret
        exact ⟨ret_bool (decide_eq_true (same_allS hll (by rw [hl]; exact HS.out))).symm, q, rfl⟩
  · have hne : ((n : Int) != (n' : Int)) = true := by simp; omega
    go_enter Tryz.func187, Tryz.ntmps187
    go_wp2
    go_ret
    exact ⟨ret_bool (decide_eq_false fun e => hnn (by rw [← hl, ← hl', e])).symm, 0, rfl⟩
end Go.Proofs.YtkpopingbbaomaaGreatDoor
namespace Go.Proofs.YtkpopingbbaomaaGreatDoor.Crc

/-- One step by a bit. -/
def st (r : Nat) : Nat := (r / 2) ^^^ (r % 2 * 3988292384)
def tabL : List Nat := [0, 498536548, 997073096, 651767980, 1994146192, 1802195444, 1303535960, 1342533948, 3988292384, 4027552580, 3604390888, 3412177804, 2607071920, 2262029012, 2685067896, 3183342108]
/-- One step by a half byte. -/
def half (r : Nat) : Nat := (r / 16) ^^^ (tabL.getD (r % 16) 0)

theorem xor_mod_two (a b : Nat) : (a ^^^ b) % 2 = (a % 2 + b % 2) % 2 := by
  have h := Nat.xor_mod_two_pow (a := a) (b := b) (n := 1)
  simp at h
  rw [h]
  rcases Nat.mod_two_eq_zero_or_one a with ha | ha <;> rcases Nat.mod_two_eq_zero_or_one b with hb | hb <;> rw [ha, hb] <;> rfl

theorem xor_div_two (a b : Nat) : (a ^^^ b) / 2 = (a / 2) ^^^ (b / 2) := by
  have := Nat.xor_div_two_pow (a := a) (b := b) (n := 1)
  simpa using this

theorem st_xor (a b : Nat) : st (a ^^^ b) = st a ^^^ st b := by
  unfold st
  rw [xor_div_two, xor_mod_two]
  rcases Nat.mod_two_eq_zero_or_one a with ha | ha <;> rcases Nat.mod_two_eq_zero_or_one b with hb | hb <;> rw [ha, hb]
  · simp
  · simp [Nat.xor_assoc]
  · skip
    simp only [Nat.one_mul, Nat.zero_mul, Nat.xor_zero]
    rw [show (1 + 0) % 2 * 3988292384 = 3988292384 from rfl, Nat.xor_assoc, Nat.xor_comm (b / 2), ← Nat.xor_assoc]
  · simp only [Nat.one_mul]
    have : ((1 + 1) % 2 * 3988292384) = 0 := rfl
    rw [this, Nat.xor_zero]
    have e : ∀ x y z : Nat, (x ^^^ z) ^^^ (y ^^^ z) = x ^^^ y := fun x y z => by
      rw [Nat.xor_assoc, Nat.xor_comm y z, ← Nat.xor_assoc z z y, Nat.xor_self, Nat.zero_xor]
    rw [e]

theorem st_double (q : Nat) : st (2 * q) = q := by unfold st; simp

theorem join (q s : Nat) (h : s < 16) : 16 * q + s = (16 * q) ^^^ s := by
  have h1 : (2 ^ 4 * q) ||| s = 2 ^ 4 * q + s := by
    rw [← Nat.two_pow_add_eq_or_of_lt (by simpa using h)]
  have h2 : (16 * q) &&& s = 0 := by
    apply Nat.eq_of_testBit_eq
    intro i
    rw [Nat.testBit_and, Nat.zero_testBit]
    by_cases hi : i < 4
    · have : (16 * q).testBit i = false := by
        have := Nat.testBit_two_pow_mul (a := q) (i := 4) (j := i)
        rw [show (16 : Nat) = 2 ^ 4 from rfl, this]
        simp; omega
      rw [this]; rfl
    · have : s.testBit i = false := Nat.testBit_lt_two_pow (Nat.lt_of_lt_of_le h (by
        have : (2 : Nat) ^ 4 ≤ 2 ^ i := Nat.pow_le_pow_right (by omega) (by omega)
        simpa using this))
      rw [this]; simp
  have h3 : (16 * q) ^^^ s = (16 * q) ||| s := by
    apply Nat.eq_of_testBit_eq
    intro i
    rw [Nat.testBit_xor, Nat.testBit_or]
    have := congrArg (·.testBit i) h2
    simp only [Nat.testBit_and, Nat.zero_testBit] at this
    cases hA : (16 * q).testBit i <;> cases hB : s.testBit i <;> simp_all
  rw [h3]; simpa using h1.symm

theorem four_small : ∀ s, s < 16 → st (st (st (st s))) = tabL.getD s 0 := by decide
theorem four (r : Nat) : st (st (st (st r))) = half r := by
  have hr : r = 16 * (r / 16) + r % 16 := by omega
  have hs : r % 16 < 16 := Nat.mod_lt _ (by omega)
  unfold half
  rw [show st r = st ((16 * (r / 16)) ^^^ (r % 16)) by rw [← join _ _ hs, ← hr]]
  rw [st_xor, st_xor, st_xor, st_xor, four_small _ hs]
  have e : st (st (st (st (16 * (r / 16))))) = r / 16 := by
    rw [show 16 * (r / 16) = 2 * (2 * (2 * (2 * (r / 16)))) by omega]
    rw [st_double, st_double, st_double, st_double]
  rw [e]
/-- A step by a byte. -/
def stB (r c : Nat) : Nat := half (half (r ^^^ c))
theorem eight (r c : Nat) : st (st (st (st (st (st (st (st (r ^^^ c)))))))) = stB r c := by rw [four, four]; rfl
theorem st_lt {r : Nat} (h : r < 4294967296) : st r < 4294967296 := by
  unfold st
  have h1 : r / 2 < 2 ^ 32 := by omega
  have h2 : r % 2 * 3988292384 < 2 ^ 32 := by
    rcases Nat.mod_two_eq_zero_or_one r with e | e <;> rw [e] <;> decide
  exact Nat.xor_lt_two_pow h1 h2
theorem tab_lt : ∀ s, s < 16 → tabL.getD s 0 < 4294967296 := by decide
theorem half_lt {r : Nat} (h : r < 4294967296) : half r < 4294967296 := by
  unfold half
  have h2 := tab_lt (r % 16) (Nat.mod_lt _ (by omega))
  exact Nat.xor_lt_two_pow (n := 32) (by omega) h2
theorem stB_lt {r c : Nat} (h : r < 4294967296) (hc : c < 256) : stB r c < 4294967296 :=
  half_lt (half_lt (Nat.xor_lt_two_pow (n := 32) h (by omega)))
/-- The sum before its end. -/
def run (zs : List Int) : Nat := zs.foldl (fun r z => stB r z.toNat) 4294967295
def crc (zs : List Int) : Nat := run zs ^^^ 4294967295
theorem run_snoc (zs : List Int) (z : Int) : run (zs ++ [z]) = stB (run zs) z.toNat := by unfold run; rw [List.foldl_append]; rfl
theorem run_lt (zs : List Int) (h : ∀ z ∈ zs, 0 ≤ z ∧ z < 256) : run zs < 4294967296 := by
  suffices ∀ r, r < 4294967296 → zs.foldl (fun r z => stB r z.toNat) r < 4294967296 from this _ (by decide)
  induction zs with
  | nil => intro r hr; exact hr
  | cons z zs ih =>
    intro r hr
    exact ih (fun y hy => h y (List.mem_cons_of_mem _ hy)) _ (stB_lt hr (by have := h z (List.mem_cons_self ..); omega))

/-! ### The sum changes with each byte. -/
theorem st_top {r : Nat} (h : r < 4294967296) : (2147483648 ≤ st r) = (r % 2 = 1) := by
  unfold st
  have hq : r / 2 < 2 ^ 31 := by omega
  rcases Nat.mod_two_eq_zero_or_one r with e | e
  · rw [e]; simp; omega
  · rw [e, Nat.one_mul]
    have ht : (r / 2).testBit 31 = false := Nat.testBit_lt_two_pow hq
    have hb : ((r / 2) ^^^ 3988292384).testBit 31 = true := by
      rw [Nat.testBit_xor, ht]; decide
    have : 2 ^ 31 ≤ (r / 2) ^^^ 3988292384 := Nat.ge_two_pow_of_testBit hb
    simp; omega
theorem xor_cancel {a b c : Nat} (h : a ^^^ c = b ^^^ c) : a = b := by
  have := congrArg (· ^^^ c) h
  simp only [Nat.xor_assoc, Nat.xor_self, Nat.xor_zero] at this
  exact this
theorem xor_cancel' {a b c : Nat} (h : c ^^^ a = c ^^^ b) : a = b := by
  rw [Nat.xor_comm c a, Nat.xor_comm c b] at h; exact xor_cancel h
theorem st_inj {a b : Nat} (ha : a < 4294967296) (hb : b < 4294967296) (h : st a = st b) : a = b := by
  have e : (a % 2 = 1) = (b % 2 = 1) := by rw [← st_top ha, ← st_top hb, h]
  have e2 : a % 2 = b % 2 := by
    rcases Nat.mod_two_eq_zero_or_one a with x | x <;> rcases Nat.mod_two_eq_zero_or_one b with y | y <;> simp_all
  unfold st at h
  rw [e2] at h
  have := xor_cancel h
  omega
theorem half_inj {a b : Nat} (ha : a < 4294967296) (hb : b < 4294967296) (h : half a = half b) : a = b := by
  rw [← four, ← four] at h
  exact st_inj ha hb (st_inj (st_lt ha) (st_lt hb) (st_inj (st_lt (st_lt ha)) (st_lt (st_lt hb)) (st_inj (st_lt (st_lt (st_lt ha))) (st_lt (st_lt (st_lt hb))) h)))
theorem stB_inj {r r' c c' : Nat} (h1 : r < 4294967296) (h2 : r' < 4294967296) (h3 : c < 256) (h4 : c' < 256) (h : stB r c = stB r' c') : r ^^^ c = r' ^^^ c' := by
  have l1 : r ^^^ c < 4294967296 := Nat.xor_lt_two_pow (n := 32) h1 (by omega)
  have l2 : r' ^^^ c' < 4294967296 := Nat.xor_lt_two_pow (n := 32) h2 (by omega)
  exact half_inj l1 l2 (half_inj (half_lt l1) (half_lt l2) h)
theorem fold_inj : ∀ (s : List Int) (r r' : Nat), (∀ z ∈ s, 0 ≤ z ∧ z < 256) → r < 4294967296 → r' < 4294967296 → s.foldl (fun r z => stB r z.toNat) r = s.foldl (fun r z => stB r z.toNat) r' → r = r'
  | [], _, _, _, _, _, h => h
  | z :: s, r, r', hz, h1, h2, h => by
    have hc : z.toNat < 256 := by have := hz z (List.mem_cons_self ..); omega
    have := fold_inj s _ _ (fun y hy => hz y (List.mem_cons_of_mem _ hy)) (stB_lt h1 hc) (stB_lt h2 hc) h
    exact xor_cancel (stB_inj h1 h2 hc hc this)
/-- With one byte changed the sum is another one. -/
theorem crc_changes (zs : List Int) (i : Nat) (c : Int) (hz : ∀ z ∈ zs, 0 ≤ z ∧ z < 256) (hi : i < zs.length) (hc : 0 ≤ c ∧ c < 256) (hne : c ≠ zs.getD i 0) : crc (zs.set i c) ≠ crc zs := by
  intro h
  have hr : run (zs.set i c) = run zs := xor_cancel h
  have e1 : zs = zs.take i ++ zs[i] :: zs.drop (i + 1) := by rw [← List.drop_eq_getElem_cons hi, List.take_append_drop]
  have e2 : zs.set i c = zs.take i ++ c :: zs.drop (i + 1) := by rw [List.set_eq_take_append_cons_drop, if_pos hi]
  have hzi := hz _ (List.getElem_mem hi)
  rw [e2] at hr
  have hr2 : run (zs.take i ++ c :: zs.drop (i + 1)) = run (zs.take i ++ zs[i] :: zs.drop (i + 1)) := by rw [hr, ← e1]
  unfold run at hr2
  rw [List.foldl_append, List.foldl_append, List.foldl_cons, List.foldl_cons] at hr2
  have hp : List.foldl (fun r z => stB r z.toNat) 4294967295 (zs.take i) < 4294967296 := run_lt (zs.take i) fun z h => hz z (List.mem_of_mem_take h)
  have := fold_inj _ _ _ (fun z h => hz z (List.mem_of_mem_drop h)) (stB_lt hp (by omega)) (stB_lt hp (by omega)) hr2
  have := xor_cancel' (stB_inj hp hp (by omega) (by omega) this)
  rw [List.getD_eq_getElem?_getD, List.getElem?_eq_getElem hi] at hne
  exact hne (by simp; omega)
end Go.Proofs.YtkpopingbbaomaaGreatDoor.Crc
