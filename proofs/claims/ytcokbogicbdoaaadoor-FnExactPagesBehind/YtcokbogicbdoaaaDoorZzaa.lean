/-
  Plain arithmetic of the sum: four steps by single bits are one step by the table of half bytes.
-/
import Derived.Test.YtcokbogicbdoaaaDoorRows
import Derived.ProofKit
import Derived.LaidMore
import Derived.OpenShut
import Derived.Stop.Joined
import Derived.Lib.LaidTab
import Derived.Lib.SmallJoins
import Derived.WalkKit
import Derived.WalkSpells
import Derived.WalkLawsBesides
namespace Go.Proofs.YtcokbogicbdoaaaDoor
open Go Go.RowKit Go.ChangeShapes Go.WideElems

theorem own : ownKnob Tryd.prog.godebug = none := by kernel_rfl
theorem laidOut : laidOutB Tryd.prog = true := by kernel_rfl

/-- One named variable reads in a later world as it did. -/
theorem vars1_stay {H : Type} {enc : TypeId × Value → H} {P : Program} {W W' : World} {n : String} {g : Nat} {t : TypeId} {gs : List (DataW H)} {q : List MemPlace} (hl : laidOutB P = true) (hg : P.globalNamed n = some g) (ht : (P.globals[g]?).map (·.type) = some t) (hr : P.readableRec t = true) (hrow : t < P.types.size)
    (h : DataW.TrodVars enc P W (fun _ => true) [n] gs q) (hb : Below W.heap.size W W') : DataW.TrodVars enc P W' (fun b => decide (b < W.heap.size)) [n] gs q := by
  obtain ⟨g', t', cs, fuel, d, p, rfl, hg', ht', hv, hd, rfl⟩ := trodVars_one h
  obtain rfl := Option.some.inj (hg.symm.trans hg')
  obtain rfl := Option.some.inj (ht.symm.trans ht')
  have lt : ∀ x ∈ p, x.block < W.heap.size := DataW.trod_lt fuel _ _ _ hd
  exact trodVars_mk1 hg ht (Go.Joins.var_stays hg hv hb (Nat.le_refl _)) (DataW.trod_stays (kids_book hl hr) (book_sized hr) (fun h => by cases h) ⟨hrow, book_self t⟩ hd (fun x hx => hb.same (lt x hx)) (fun x hx => by simpa using lt x hx))

/-- An array of strings that reads as listed holds the listed strings. -/
theorem cells_of_strs {H : Type} {enc : TypeId × Value → H} {P : Program} {w : World} {base : Nat} {sp : Nat → Bool} {held : Bool} {fuel : Nat} {t e : TypeId} {n : Nat} {cs : List Value} {ss : List (List UInt8)} {p : List MemPlace}
    (ht : P.underlying t = some (.array n e)) (he : P.underlying e = some .string) (hce : P.cellsOf e = 1) (hct : P.cellsOf t = n)
    (h : DataW.trod enc P w base sp held fuel t cs = some (.agg (ss.map fun s => .lit (.string s)), p)) : cs = ss.map fun s => Value.string ⟨s.toArray⟩ := by
  obtain ⟨xs, m, rfl, hx, hlen, hxl, hel⟩ := DataW.trod_array ht h
  simp only [Prod.mk.injEq, DataW.agg.injEq] at hx
  obtain ⟨hx, _⟩ := hx
  have hsl : ss.length = n := by have := congrArg List.length hx; simp at this; omega
  apply List.ext_getElem?
  intro i
  by_cases hi : i < n
  · have h1 := hel i hi
    rw [List.getElem?_eq_getElem (by omega)] at h1
    obtain ⟨s, hc, hz, _⟩ := DataW.trod_string he h1
    have h2 : cs[i]? = some (.string s) := by
      have := congrArg (·[0]?) hc
      simpa [hce, List.getElem?_take, List.getElem?_drop] using this
    have h3 := congrArg (·[i]?) hx
    simp only [List.getElem?_map, List.getElem?_eq_getElem (show i < ss.length by omega), List.getElem?_eq_getElem (show i < xs.length by omega), Option.map_some, Option.some.injEq] at h3
    rw [hz] at h3
    simp only [DataW.lit.injEq, Lit.string.injEq] at h3
    rw [h2, List.getElem?_map, List.getElem?_eq_getElem (by omega), Option.map_some, h3]
  · rw [List.getElem?_eq_none (by omega), List.getElem?_eq_none (by simp; omega)]

theorem var_block {P : Program} {W : World} {n : String} {g : Nat} {cs : Array Value} (hg : P.globalNamed n = some g) (h : W.var? P n = some cs) : ∃ t fr, W.heap[g]? = some (.cells cs t fr) := by
  simp only [World.var?, hg, Option.bind_some] at h
  split at h
  · rename_i c t fr hb
    simp only [Option.some.injEq] at h
    subst h
    exact ⟨t, fr, hb⟩
  · cases h
end Go.Proofs.YtcokbogicbdoaaaDoor
namespace Go.Proofs.YtcokbogicbdoaaaDoor
open Go Go.RowKit

theorem ret_bool {a b : Bool} (h : a = b) : Ending.returned (.bool a) = .returned (.bool b) := by rw [h]
theorem ret_int {a b : Int} (h : a = b) : Ending.returned (.int .i64 a) = .returned (.int .i64 b) := by rw [h]
def inB (n lo hi : Int) : Bool := decide (lo ≤ n ∧ n ≤ hi)
theorem c_in (n lo hi : Int) (w : World) : Calls Tryd.prog 26 #[.int .i64 n, .int .i64 lo, .int .i64 hi] w fun e w' => e = .returned (.bool (inB n lo hi)) ∧ w' = w := by
  by_cases h1 : lo ≤ n <;> by_cases h2 : n ≤ hi
  all_goals
    go_enter Tryd.func26, Tryd.ntmps26
    go_wp2
    go_ret
    exact ⟨ret_bool (by simp [inB, h1, h2]), rfl⟩
end Go.Proofs.YtcokbogicbdoaaaDoor
namespace Go.Proofs.YtcokbogicbdoaaaDoor.Crc

/-- One step by a bit. -/
def st (r : Nat) : Nat := (r / 2) ^^^ (r % 2 * 3988292384)
def tabL : List Nat := [0, 498536548, 997073096, 651767980, 1994146192, 1802195444, 1303535960, 1342533948, 3988292384, 4027552580, 3604390888, 3412177804, 2607071920, 2262029012, 2685067896, 3183342108]
/-- One step by a half byte. -/
def half (r : Nat) : Nat := (r / 16) ^^^ (tabL.getD (r % 16) 0)

theorem xor_mod_two (a b : Nat) : (a ^^^ b) % 2 = (a % 2 + b % 2) % 2 := by
  have h := Nat.xor_mod_two_pow (a := a) (b := b) (n := 1)
  simp at h
  rw [h]
  rcases Nat.mod_two_eq_zero_or_one a with ha | ha <;> rcases Nat.mod_two_eq_zero_or_one b with hb | hb <;> rw [ha, hb] <;> rfl

theorem xor_div_two (a b : Nat) : (a ^^^ b) / 2 = (a / 2) ^^^ (b / 2) := by
  have := Nat.xor_div_two_pow (a := a) (b := b) (n := 1)
  simpa using this

theorem st_xor (a b : Nat) : st (a ^^^ b) = st a ^^^ st b := by
  unfold st
  rw [xor_div_two, xor_mod_two]
  rcases Nat.mod_two_eq_zero_or_one a with ha | ha <;> rcases Nat.mod_two_eq_zero_or_one b with hb | hb <;> rw [ha, hb]
  · simp
  · simp [Nat.xor_assoc]
  · skip
    simp only [Nat.one_mul, Nat.zero_mul, Nat.xor_zero]
    rw [show (1 + 0) % 2 * 3988292384 = 3988292384 from rfl, Nat.xor_assoc, Nat.xor_comm (b / 2), ← Nat.xor_assoc]
  · simp only [Nat.one_mul]
    have : ((1 + 1) % 2 * 3988292384) = 0 := rfl
    rw [this, Nat.xor_zero]
    have e : ∀ x y z : Nat, (x ^^^ z) ^^^ (y ^^^ z) = x ^^^ y := fun x y z => by
      rw [Nat.xor_assoc, Nat.xor_comm y z, ← Nat.xor_assoc z z y, Nat.xor_self, Nat.zero_xor]
    rw [e]

theorem st_double (q : Nat) : st (2 * q) = q := by unfold st; simp

theorem join (q s : Nat) (h : s < 16) : 16 * q + s = (16 * q) ^^^ s := by
  have h1 : (2 ^ 4 * q) ||| s = 2 ^ 4 * q + s := by
    rw [← Nat.two_pow_add_eq_or_of_lt (by simpa using h)]
  have h2 : (16 * q) &&& s = 0 := by
    apply Nat.eq_of_testBit_eq
    intro i
    rw [Nat.testBit_and, Nat.zero_testBit]
    by_cases hi : i < 4
    · have : (16 * q).testBit i = false := by
        have := Nat.testBit_two_pow_mul (a := q) (i := 4) (j := i)
        rw [show (16 : Nat) = 2 ^ 4 from rfl, this]
        simp; omega
      rw [this]; rfl
    · have : s.testBit i = false := Nat.testBit_lt_two_pow (Nat.lt_of_lt_of_le h (by
        have : (2 : Nat) ^ 4 ≤ 2 ^ i := Nat.pow_le_pow_right (by omega) (by omega)
        simpa using this))
      rw [this]; simp
  have h3 : (16 * q) ^^^ s = (16 * q) ||| s := by
    apply Nat.eq_of_testBit_eq
    intro i
    rw [Nat.testBit_xor, Nat.testBit_or]
    have := congrArg (·.testBit i) h2
    simp only [Nat.testBit_and, Nat.zero_testBit] at this
    cases hA : (16 * q).testBit i <;> cases hB : s.testBit i <;> simp_all
  rw [h3]; simpa using h1.symm

theorem four_small : ∀ s, s < 16 → st (st (st (st s))) = tabL.getD s 0 := by decide
theorem four (r : Nat) : st (st (st (st r))) = half r := by
  have hr : r = 16 * (r / 16) + r % 16 := by omega
  have hs : r % 16 < 16 := Nat.mod_lt _ (by omega)
  unfold half
  rw [show st r = st ((16 * (r / 16)) ^^^ (r % 16)) by rw [← join _ _ hs, ← hr]]
  rw [st_xor, st_xor, st_xor, st_xor, four_small _ hs]
  have e : st (st (st (st (16 * (r / 16))))) = r / 16 := by
    rw [show 16 * (r / 16) = 2 * (2 * (2 * (2 * (r / 16)))) by omega]
    rw [st_double, st_double, st_double, st_double]
  rw [e]
/-- A step by a byte. -/
def stB (r c : Nat) : Nat := half (half (r ^^^ c))
theorem eight (r c : Nat) : st (st (st (st (st (st (st (st (r ^^^ c)))))))) = stB r c := by rw [four, four]; rfl
theorem st_lt {r : Nat} (h : r < 4294967296) : st r < 4294967296 := by
  unfold st
  have h1 : r / 2 < 2 ^ 32 := by omega
  have h2 : r % 2 * 3988292384 < 2 ^ 32 := by
    rcases Nat.mod_two_eq_zero_or_one r with e | e <;> rw [e] <;> decide
  exact Nat.xor_lt_two_pow h1 h2
theorem tab_lt : ∀ s, s < 16 → tabL.getD s 0 < 4294967296 := by decide
theorem half_lt {r : Nat} (h : r < 4294967296) : half r < 4294967296 := by
  unfold half
  have h2 := tab_lt (r % 16) (Nat.mod_lt _ (by omega))
  exact Nat.xor_lt_two_pow (n := 32) (by omega) h2
theorem stB_lt {r c : Nat} (h : r < 4294967296) (hc : c < 256) : stB r c < 4294967296 :=
  half_lt (half_lt (Nat.xor_lt_two_pow (n := 32) h (by omega)))
/-- The sum before its end. -/
def run (zs : List Int) : Nat := zs.foldl (fun r z => stB r z.toNat) 4294967295
def crc (zs : List Int) : Nat := run zs ^^^ 4294967295
theorem run_snoc (zs : List Int) (z : Int) : run (zs ++ [z]) = stB (run zs) z.toNat := by unfold run; rw [List.foldl_append]; rfl
theorem run_lt (zs : List Int) (h : ∀ z ∈ zs, 0 ≤ z ∧ z < 256) : run zs < 4294967296 := by
  suffices ∀ r, r < 4294967296 → zs.foldl (fun r z => stB r z.toNat) r < 4294967296 from this _ (by decide)
  induction zs with
  | nil => intro r hr; exact hr
  | cons z zs ih =>
    intro r hr
    exact ih (fun y hy => h y (List.mem_cons_of_mem _ hy)) _ (stB_lt hr (by have := h z (List.mem_cons_self ..); omega))

/-! ### The sum changes with each byte. -/
theorem st_top {r : Nat} (h : r < 4294967296) : (2147483648 ≤ st r) = (r % 2 = 1) := by
  unfold st
  have hq : r / 2 < 2 ^ 31 := by omega
  rcases Nat.mod_two_eq_zero_or_one r with e | e
  · rw [e]; simp; omega
  · rw [e, Nat.one_mul]
    have ht : (r / 2).testBit 31 = false := Nat.testBit_lt_two_pow hq
    have hb : ((r / 2) ^^^ 3988292384).testBit 31 = true := by
      rw [Nat.testBit_xor, ht]; decide
    have : 2 ^ 31 ≤ (r / 2) ^^^ 3988292384 := Nat.ge_two_pow_of_testBit hb
    simp; omega
theorem xor_cancel {a b c : Nat} (h : a ^^^ c = b ^^^ c) : a = b := by
  have := congrArg (· ^^^ c) h
  simp only [Nat.xor_assoc, Nat.xor_self, Nat.xor_zero] at this
  exact this
theorem xor_cancel' {a b c : Nat} (h : c ^^^ a = c ^^^ b) : a = b := by
  rw [Nat.xor_comm c a, Nat.xor_comm c b] at h; exact xor_cancel h
theorem st_inj {a b : Nat} (ha : a < 4294967296) (hb : b < 4294967296) (h : st a = st b) : a = b := by
  have e : (a % 2 = 1) = (b % 2 = 1) := by rw [← st_top ha, ← st_top hb, h]
  have e2 : a % 2 = b % 2 := by
    rcases Nat.mod_two_eq_zero_or_one a with x | x <;> rcases Nat.mod_two_eq_zero_or_one b with y | y <;> simp_all
  unfold st at h
  rw [e2] at h
  have := xor_cancel h
  omega
theorem half_inj {a b : Nat} (ha : a < 4294967296) (hb : b < 4294967296) (h : half a = half b) : a = b := by
  rw [← four, ← four] at h
  exact st_inj ha hb (st_inj (st_lt ha) (st_lt hb) (st_inj (st_lt (st_lt ha)) (st_lt (st_lt hb)) (st_inj (st_lt (st_lt (st_lt ha))) (st_lt (st_lt (st_lt hb))) h)))
theorem stB_inj {r r' c c' : Nat} (h1 : r < 4294967296) (h2 : r' < 4294967296) (h3 : c < 256) (h4 : c' < 256) (h : stB r c = stB r' c') : r ^^^ c = r' ^^^ c' := by
  have l1 : r ^^^ c < 4294967296 := Nat.xor_lt_two_pow (n := 32) h1 (by omega)
  have l2 : r' ^^^ c' < 4294967296 := Nat.xor_lt_two_pow (n := 32) h2 (by omega)
  exact half_inj l1 l2 (half_inj (half_lt l1) (half_lt l2) h)
theorem fold_inj : ∀ (s : List Int) (r r' : Nat), (∀ z ∈ s, 0 ≤ z ∧ z < 256) → r < 4294967296 → r' < 4294967296 → s.foldl (fun r z => stB r z.toNat) r = s.foldl (fun r z => stB r z.toNat) r' → r = r'
  | [], _, _, _, _, _, h => h
  | z :: s, r, r', hz, h1, h2, h => by
    have hc : z.toNat < 256 := by have := hz z (List.mem_cons_self ..); omega
    have := fold_inj s _ _ (fun y hy => hz y (List.mem_cons_of_mem _ hy)) (stB_lt h1 hc) (stB_lt h2 hc) h
    exact xor_cancel (stB_inj h1 h2 hc hc this)
/-- With one byte changed the sum is another one. -/
theorem crc_changes (zs : List Int) (i : Nat) (c : Int) (hz : ∀ z ∈ zs, 0 ≤ z ∧ z < 256) (hi : i < zs.length) (hc : 0 ≤ c ∧ c < 256) (hne : c ≠ zs.getD i 0) : crc (zs.set i c) ≠ crc zs := by
  intro h
  have hr : run (zs.set i c) = run zs := xor_cancel h
  have e1 : zs = zs.take i ++ zs[i] :: zs.drop (i + 1) := by rw [← List.drop_eq_getElem_cons hi, List.take_append_drop]
  have e2 : zs.set i c = zs.take i ++ c :: zs.drop (i + 1) := by rw [List.set_eq_take_append_cons_drop, if_pos hi]
  have hzi := hz _ (List.getElem_mem hi)
  rw [e2] at hr
  have hr2 : run (zs.take i ++ c :: zs.drop (i + 1)) = run (zs.take i ++ zs[i] :: zs.drop (i + 1)) := by rw [hr, ← e1]
  unfold run at hr2
  rw [List.foldl_append, List.foldl_append, List.foldl_cons, List.foldl_cons] at hr2
  have hp : List.foldl (fun r z => stB r z.toNat) 4294967295 (zs.take i) < 4294967296 := run_lt (zs.take i) fun z h => hz z (List.mem_of_mem_take h)
  have := fold_inj _ _ _ (fun z h => hz z (List.mem_of_mem_drop h)) (stB_lt hp (by omega)) (stB_lt hp (by omega)) hr2
  have := xor_cancel' (stB_inj hp hp (by omega) (by omega) this)
  rw [List.getD_eq_getElem?_getD, List.getElem?_eq_getElem hi] at hne
  exact hne (by simp; omega)
end Go.Proofs.YtcokbogicbdoaaaDoor.Crc
