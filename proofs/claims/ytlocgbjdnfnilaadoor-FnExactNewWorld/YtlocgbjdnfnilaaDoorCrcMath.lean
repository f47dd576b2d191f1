/-
  Plain arithmetic of the sum: four steps by single bits are one step by the table of half bytes.
-/
namespace Go.Proofs.YtlocgbjdnfnilaaDoor.Crc

/-- One step by a bit. -/
def st (r : Nat) : Nat := (r / 2) ^^^ (r % 2 * 3988292384)
def tabL : List Nat := [0, 498536548, 997073096, 651767980, 1994146192, 1802195444, 1303535960, 1342533948, 3988292384, 4027552580, 3604390888, 3412177804, 2607071920, 2262029012, 2685067896, 3183342108]
/-- One step by a half byte. -/
def half (r : Nat) : Nat := (r / 16) ^^^ (tabL.getD (r % 16) 0)

theorem xor_mod_two (a b : Nat) : (a ^^^ b) % 2 = (a % 2 + b % 2) % 2 := by
  have h := Nat.xor_mod_two_pow (a := a) (b := b) (n := 1)
  simp at h
  rw [h]
  rcases Nat.mod_two_eq_zero_or_one a with ha | ha <;> rcases Nat.mod_two_eq_zero_or_one b with hb | hb <;> rw [ha, hb] <;> rfl

theorem xor_div_two (a b : Nat) : (a ^^^ b) / 2 = (a / 2) ^^^ (b / 2) := by
  have := Nat.xor_div_two_pow (a := a) (b := b) (n := 1)
  simpa using this

theorem st_xor (a b : Nat) : st (a ^^^ b) = st a ^^^ st b := by
  unfold st
  rw [xor_div_two, xor_mod_two]
  rcases Nat.mod_two_eq_zero_or_one a with ha | ha <;> rcases Nat.mod_two_eq_zero_or_one b with hb | hb <;> rw [ha, hb]
  · simp
  · simp [Nat.xor_assoc]
  · skip
    simp only [Nat.one_mul, Nat.zero_mul, Nat.xor_zero]
    rw [show (1 + 0) % 2 * 3988292384 = 3988292384 from rfl, Nat.xor_assoc, Nat.xor_comm (b / 2), ← Nat.xor_assoc]
  · simp only [Nat.one_mul]
    have : ((1 + 1) % 2 * 3988292384) = 0 := rfl
    rw [this, Nat.xor_zero]
    have e : ∀ x y z : Nat, (x ^^^ z) ^^^ (y ^^^ z) = x ^^^ y := fun x y z => by
      rw [Nat.xor_assoc, Nat.xor_comm y z, ← Nat.xor_assoc z z y, Nat.xor_self, Nat.zero_xor]
    rw [e]

theorem st_double (q : Nat) : st (2 * q) = q := by unfold st; simp

theorem join (q s : Nat) (h : s < 16) : 16 * q + s = (16 * q) ^^^ s := by
  have h1 : (2 ^ 4 * q) ||| s = 2 ^ 4 * q + s := by
    rw [← Nat.two_pow_add_eq_or_of_lt (by simpa using h)]
  have h2 : (16 * q) &&& s = 0 := by
    apply Nat.eq_of_testBit_eq
    intro i
    rw [Nat.testBit_and, Nat.zero_testBit]
    by_cases hi : i < 4
    · have : (16 * q).testBit i = false := by
        have := Nat.testBit_two_pow_mul (a := q) (i := 4) (j := i)
        rw [show (16 : Nat) = 2 ^ 4 from rfl, this]
        simp; omega
      rw [this]; rfl
    · have : s.testBit i = false := Nat.testBit_lt_two_pow (Nat.lt_of_lt_of_le h (by
        have : (2 : Nat) ^ 4 ≤ 2 ^ i := Nat.pow_le_pow_right (by omega) (by omega)
        simpa using this))
      rw [this]; simp
  have h3 : (16 * q) ^^^ s = (16 * q) ||| s := by
    apply Nat.eq_of_testBit_eq
    intro i
    rw [Nat.testBit_xor, Nat.testBit_or]
    have := congrArg (·.testBit i) h2
    simp only [Nat.testBit_and, Nat.zero_testBit] at this
    cases hA : (16 * q).testBit i <;> cases hB : s.testBit i <;> simp_all
  rw [h3]; simpa using h1.symm

theorem four_small : ∀ s, s < 16 → st (st (st (st s))) = tabL.getD s 0 := by decide
theorem four (r : Nat) : st (st (st (st r))) = half r := by
  have hr : r = 16 * (r / 16) + r % 16 := by omega
  have hs : r % 16 < 16 := Nat.mod_lt _ (by omega)
  unfold half
  rw [show st r = st ((16 * (r / 16)) ^^^ (r % 16)) by rw [← join _ _ hs, ← hr]]
  rw [st_xor, st_xor, st_xor, st_xor, four_small _ hs]
  have e : st (st (st (st (16 * (r / 16))))) = r / 16 := by
    rw [show 16 * (r / 16) = 2 * (2 * (2 * (2 * (r / 16)))) by omega]
    rw [st_double, st_double, st_double, st_double]
  rw [e]
/-- A step by a byte. -/
def stB (r c : Nat) : Nat := half (half (r ^^^ c))
theorem eight (r c : Nat) : st (st (st (st (st (st (st (st (r ^^^ c)))))))) = stB r c := by rw [four, four]; rfl
theorem st_lt {r : Nat} (h : r < 4294967296) : st r < 4294967296 := by
  unfold st
  have h1 : r / 2 < 2 ^ 32 := by omega
  have h2 : r % 2 * 3988292384 < 2 ^ 32 := by
    rcases Nat.mod_two_eq_zero_or_one r with e | e <;> rw [e] <;> decide
  exact Nat.xor_lt_two_pow h1 h2
theorem tab_lt : ∀ s, s < 16 → tabL.getD s 0 < 4294967296 := by decide
theorem half_lt {r : Nat} (h : r < 4294967296) : half r < 4294967296 := by
  unfold half
  have h2 := tab_lt (r % 16) (Nat.mod_lt _ (by omega))
  exact Nat.xor_lt_two_pow (n := 32) (by omega) h2
theorem stB_lt {r c : Nat} (h : r < 4294967296) (hc : c < 256) : stB r c < 4294967296 :=
  half_lt (half_lt (Nat.xor_lt_two_pow (n := 32) h (by omega)))
/-- The sum before its end. -/
def run (zs : List Int) : Nat := zs.foldl (fun r z => stB r z.toNat) 4294967295
def crc (zs : List Int) : Nat := run zs ^^^ 4294967295
theorem run_snoc (zs : List Int) (z : Int) : run (zs ++ [z]) = stB (run zs) z.toNat := by unfold run; rw [List.foldl_append]; rfl
theorem run_lt (zs : List Int) (h : ∀ z ∈ zs, 0 ≤ z ∧ z < 256) : run zs < 4294967296 := by
  suffices ∀ r, r < 4294967296 → zs.foldl (fun r z => stB r z.toNat) r < 4294967296 from this _ (by decide)
  induction zs with
  | nil => intro r hr; exact hr
  | cons z zs ih =>
    intro r hr
    exact ih (fun y hy => h y (List.mem_cons_of_mem _ hy)) _ (stB_lt hr (by have := h z (List.mem_cons_self ..); omega))

/-! ### The sum changes with each byte. -/
theorem st_top {r : Nat} (h : r < 4294967296) : (2147483648 ≤ st r) = (r % 2 = 1) := by
  unfold st
  have hq : r / 2 < 2 ^ 31 := by omega
  rcases Nat.mod_two_eq_zero_or_one r with e | e
  · rw [e]; simp; omega
  · rw [e, Nat.one_mul]
    have ht : (r / 2).testBit 31 = false := Nat.testBit_lt_two_pow hq
    have hb : ((r / 2) ^^^ 3988292384).testBit 31 = true := by
      rw [Nat.testBit_xor, ht]; decide
    have : 2 ^ 31 ≤ (r / 2) ^^^ 3988292384 := Nat.ge_two_pow_of_testBit hb
    simp; omega
theorem xor_cancel {a b c : Nat} (h : a ^^^ c = b ^^^ c) : a = b := by
  have := congrArg (· ^^^ c) h
  simp only [Nat.xor_assoc, Nat.xor_self, Nat.xor_zero] at this
  exact this
theorem xor_cancel' {a b c : Nat} (h : c ^^^ a = c ^^^ b) : a = b := by
  rw [Nat.xor_comm c a, Nat.xor_comm c b] at h; exact xor_cancel h
theorem st_inj {a b : Nat} (ha : a < 4294967296) (hb : b < 4294967296) (h : st a = st b) : a = b := by
  have e : (a % 2 = 1) = (b % 2 = 1) := by rw [← st_top ha, ← st_top hb, h]
  have e2 : a % 2 = b % 2 := by
    rcases Nat.mod_two_eq_zero_or_one a with x | x <;> rcases Nat.mod_two_eq_zero_or_one b with y | y <;> simp_all
  unfold st at h
  rw [e2] at h
  have := xor_cancel h
  omega
theorem half_inj {a b : Nat} (ha : a < 4294967296) (hb : b < 4294967296) (h : half a = half b) : a = b := by
  rw [← four, ← four] at h
  exact st_inj ha hb (st_inj (st_lt ha) (st_lt hb) (st_inj (st_lt (st_lt ha)) (st_lt (st_lt hb)) (st_inj (st_lt (st_lt (st_lt ha))) (st_lt (st_lt (st_lt hb))) h)))
theorem stB_inj {r r' c c' : Nat} (h1 : r < 4294967296) (h2 : r' < 4294967296) (h3 : c < 256) (h4 : c' < 256) (h : stB r c = stB r' c') : r ^^^ c = r' ^^^ c' := by
  have l1 : r ^^^ c < 4294967296 := Nat.xor_lt_two_pow (n := 32) h1 (by omega)
  have l2 : r' ^^^ c' < 4294967296 := Nat.xor_lt_two_pow (n := 32) h2 (by omega)
  exact half_inj l1 l2 (half_inj (half_lt l1) (half_lt l2) h)
theorem fold_inj : ∀ (s : List Int) (r r' : Nat), (∀ z ∈ s, 0 ≤ z ∧ z < 256) → r < 4294967296 → r' < 4294967296 → s.foldl (fun r z => stB r z.toNat) r = s.foldl (fun r z => stB r z.toNat) r' → r = r'
  | [], _, _, _, _, _, h => h
  | z :: s, r, r', hz, h1, h2, h => by
    have hc : z.toNat < 256 := by have := hz z (List.mem_cons_self ..); omega
    have := fold_inj s _ _ (fun y hy => hz y (List.mem_cons_of_mem _ hy)) (stB_lt h1 hc) (stB_lt h2 hc) h
    exact xor_cancel (stB_inj h1 h2 hc hc this)
/-- With one byte changed the sum is another one. -/
theorem crc_changes (zs : List Int) (i : Nat) (c : Int) (hz : ∀ z ∈ zs, 0 ≤ z ∧ z < 256) (hi : i < zs.length) (hc : 0 ≤ c ∧ c < 256) (hne : c ≠ zs.getD i 0) : crc (zs.set i c) ≠ crc zs := by
  intro h
  have hr : run (zs.set i c) = run zs := xor_cancel h
  have e1 : zs = zs.take i ++ zs[i] :: zs.drop (i + 1) := by rw [← List.drop_eq_getElem_cons hi, List.take_append_drop]
  have e2 : zs.set i c = zs.take i ++ c :: zs.drop (i + 1) := by rw [List.set_eq_take_append_cons_drop, if_pos hi]
  have hzi := hz _ (List.getElem_mem hi)
  rw [e2] at hr
  have hr2 : run (zs.take i ++ c :: zs.drop (i + 1)) = run (zs.take i ++ zs[i] :: zs.drop (i + 1)) := by rw [hr, ← e1]
  unfold run at hr2
  rw [List.foldl_append, List.foldl_append, List.foldl_cons, List.foldl_cons] at hr2
  have hp : List.foldl (fun r z => stB r z.toNat) 4294967295 (zs.take i) < 4294967296 := run_lt (zs.take i) fun z h => hz z (List.mem_of_mem_take h)
  have := fold_inj _ _ _ (fun z h => hz z (List.mem_of_mem_drop h)) (stB_lt hp (by omega)) (stB_lt hp (by omega)) hr2
  have := xor_cancel' (stB_inj hp hp (by omega) (by omega) this)
  rw [List.getD_eq_getElem?_getD, List.getElem?_eq_getElem hi] at hne
  exact hne (by simp; omega)
end Go.Proofs.YtlocgbjdnfnilaaDoor.Crc
