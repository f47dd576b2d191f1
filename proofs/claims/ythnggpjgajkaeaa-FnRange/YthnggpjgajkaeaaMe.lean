/-
  Keys that rise; nodes that are ones.
-/
import Derived.Test.YthnggpjgajkaeaaMd
namespace Go.Proofs.Ythnggpjgajkaeaa
open Go Go.RowKit
attribute [local go_sem ↓] Go.wp_at_zero Go.wp_at_succ

theorem bl_tri : ∀ a b : List UInt8, Op.bytesLess b a = !(Op.bytesLess a b || a == b)
  | [], [] => rfl
  | [], b :: y => by simp [Op.bytesLess]
  | a :: x, [] => by simp [Op.bytesLess]
  | a :: x, b :: y => by
    have ih := bl_tri x y
    rw [Op.bytesLess, Op.bytesLess, List.cons_beq_cons, ih]
    by_cases h1 : a < b
    · have h2 : ¬ b < a := fun h => by rw [UInt8.lt_iff_toNat_lt] at h h1; omega
      have h3 : (b == a) = false := beq_eq_false_iff_ne.2 fun e => by subst e; rw [UInt8.lt_iff_toNat_lt] at h1; omega
      simp [h1, h2, h3]
    · by_cases h2 : b < a
      · have h3 : (b == a) = false := beq_eq_false_iff_ne.2 fun e => by subst e; exact h1 h2
        have h4 : (a == b) = false := beq_eq_false_iff_ne.2 fun e => by subst e; exact h1 h2
        simp [h1, h2, h4]
      · have e : a = b := by rw [UInt8.lt_iff_toNat_lt] at h1 h2; exact UInt8.toNat_inj.1 (by omega)
        subst e
        simp [h1]
theorem bl_or (a b : List UInt8) : (Op.bytesLess a b || a == b) = !(Op.bytesLess b a) := by rw [bl_tri a b, Bool.not_not]
/-- A call's answer is whether P. -/
def AnsP (P : Prop) (e : Ending) : Prop := ∃ b : Bool, e = .returned (.bool b) ∧ (b = true ↔ P)
theorem AnsP.yes {P : Prop} (h : P) : AnsP P (.returned (.bool true)) := ⟨true, rfl, fun _ => h, fun _ => rfl⟩
theorem AnsP.no {P : Prop} (h : ¬ P) : AnsP P (.returned (.bool false)) := ⟨false, rfl, fun e => (by cases e), fun k => absurd k h⟩
theorem AnsP.of {P : Prop} {b : Bool} (h : b = true ↔ P) : AnsP P (.returned (.bool b)) := ⟨b, rfl, h⟩
theorem bl_irr (a : List UInt8) : Op.bytesLess a a = false := by have := bl_tri a a; simpa using this
theorem c_treeKey (s : ByteArray) (w : World) (hs : s.size ≤ 1048576) : Calls Try.prog 65 #[.string s] w fun e w' => e = .returned (.bool (kOK s)) ∧ w' = w := by
  by_cases h1 : 1 ≤ s.size
  · go_enter Try.func65, Try.ntmps65
    go_wp2
    go_ret
    exact ⟨ret_bool (by unfold kOK; rw [Bool.eq_iff_iff]; simp only [Bool.and_eq_true, decide_eq_true_eq]; omega), rfl⟩
  · go_enter Try.func65, Try.ntmps65
    go_wp2
    go_ret
    exact ⟨ret_bool (by unfold kOK; rw [decide_eq_false h1]; rfl), rfl⟩
theorem c_l09Key (s : ByteArray) (w : World) (hs : s.size ≤ 1048576) : Calls Try.prog 77 #[.string s] w fun e w' => e = .returned (.bool (kOK s)) ∧ w' = w := by
  have C := c_in (s.size : Int) 1 30 w
  have E : Hid (inB (s.size : Int) 1 30 = kOK s) := by
    unfold Hid inB kOK
    rw [← Bool.decide_and]
    congr 1
    apply propext
    omega
  go_enter Try.func77, Try.ntmps77
  go_wp2_with fail
  refine C.mono ?_
  rintro e w' ⟨rfl, hq⟩; have hq' := hq.symm; subst hq'; clear hq
  go_wp2
  go_ret
  exact ⟨ret_bool E.out, rfl⟩
/-- The first keys are right. -/
def KTo (K : List ByteArray) (n : Nat) : Prop := (∀ i, i < n → kOK (K.getD i zS) = true) ∧ ∀ i, 0 < i → i < n → Op.bytesLess (K.getD (i - 1) zS).toList (K.getD i zS).toList = true
theorem KTo.zero (K : List ByteArray) : KTo K 0 := ⟨fun i h => absurd h (by omega), fun i _ h => absurd h (by omega)⟩
theorem KTo.step {K : List ByteArray} {n : Nat} (h : KTo K n) (h1 : kOK (K.getD n zS) = true) (h2 : 0 < n → Op.bytesLess (K.getD (n - 1) zS).toList (K.getD n zS).toList = true) : KTo K (n + 1) :=
  ⟨fun i hi => by
    by_cases e : i = n
    · subst e; exact h1
    · exact h.1 i (by omega), fun i h0 hi => by
    by_cases e : i = n
    · subst e; exact h2 h0
    · exact h.2 i h0 (by omega)⟩
theorem KOK_iff {K : List ByteArray} (h : KTo K K.length) : KOK K ↔ K.length ≤ 60 := ⟨fun k => k.1, fun k => ⟨k, h.1, h.2⟩⟩
set_option maxRecDepth 100000 in
set_option maxHeartbeats 4000000 in
theorem c_areKeys (a : Option Addr) (n c : Nat) (K : List ByteArray) (w : World) (hr : RdV w a n (K.map Value.string)) (hn : n ≤ 1048576) (hs : ∀ s ∈ K, s.size ≤ 1048576) :
    Calls Try.prog 73 #[.slice a n c] w fun e w' => AnsP (KOK K) e ∧ w' = w := by
  obtain ⟨hl, hcs⟩ := hr
  simp only [List.length_map] at hl
  have HSS : Hid (∀ s ∈ K, s.size ≤ 1048576) := hs
  have HLL : Hid (K.length = n) := hl
  have HCS : Hid (0 < n → ∃ b off, a = some ⟨b, off, none⟩ ∧ b < w.heap.size ∧ ∀ i, i < n → w.cell? ⟨b, off + i, none⟩ = (K.map Value.string)[i]?) := hcs
  clear hs hl hcs
  go_enter Try.func73, Try.ntmps73
  go_wp2
  go_loop [7] (fun i => ∃ k : Nat, k ≤ n ∧ i = .int .i64 k ∧ Hid (KTo K k)) (fun i => n - (intOf i).toNat)
  case atStart => exact ⟨0, by omega, rfl, KTo.zero K⟩
  case round =>
    obtain ⟨k, hk, rfl, HT⟩ := hrel
    by_cases hlt : k < n
    · obtain ⟨b, off, rfl, hbl, hc⟩ := HCS.out (by omega)
      obtain ⟨z, hz⟩ : ∃ z, z = K.getD k zS := ⟨_, rfl⟩
      have hck : w.cell? ⟨b, off + k, none⟩ = some (Value.string z) := by rw [hz, hc k hlt]; exact map_get _ _ _ _ (by rw [HLL.out]; exact hlt)
      have HZ : Hid (z = K.getD k zS) := hz
      have hzs : z.size ≤ 1048576 := by
        rw [hz, List.getD_eq_getElem?_getD, List.getElem?_eq_getElem (by rw [HLL.out]; exact hlt)]
        exact HSS.out _ (List.getElem_mem _)
      have C := c_treeKey z w hzs
      cases hkk : kOK z
      · rw [hkk] at C
        have HKK : Hid (kOK z = false) := hkk
        clear hc hz hkk HCS
        go_wp2_with fail
        refine C.mono ?_
        rintro e w' ⟨rfl, hq⟩; have hq' := hq.symm; subst hq'; clear hq C
        go_wp2
        go_ret
        exact ⟨AnsP.no (fun h => by have := h.2.1 k (by rw [HLL.out]; exact hlt); rw [← HZ.out, HKK.out] at this; cases this), rfl⟩
      · rw [hkk] at C
        have HKK : Hid (kOK z = true) := hkk
        by_cases h0 : 0 < k
        · obtain ⟨y, hy⟩ : ∃ y, y = K.getD (k - 1) zS := ⟨_, rfl⟩
          have hcy : w.cell? ⟨b, off + (k - 1), none⟩ = some (Value.string y) := by rw [hy, hc (k - 1) (by omega)]; exact map_get _ _ _ _ (by rw [HLL.out]; omega)
          have HY : Hid (y = K.getD (k - 1) zS) := hy
          have H0 : Hid (0 < k) := h0
          have w1 : IntKind.i64.wrap ((k : Int) - 1) = (k : Int) - 1 := by rw [IntKind.wrap_i64]; omega
          have w2 : ((k : Int) - 1).toNat = k - 1 := by omega
          have w3 : (0 : Int) ≤ (k : Int) - 1 := by omega
          have w4 : (k : Int) - 1 < (n : Int) := by omega
          clear hc hz hkk hy HCS
          cases hlb : Op.bytesLess y.toList z.toList
          · have hor : (Op.bytesLess z.toList y.toList || z.toList == y.toList) = true := by rw [bl_or, hlb]; rfl
            have HLB : Hid (Op.bytesLess y.toList z.toList = false) := hlb
            have fin : Hid (¬ KOK K) := fun h => by have := h.2.2 k H0.out (by rw [HLL.out]; exact hlt); rw [← HZ.out, ← HY.out, HLB.out] at this; cases this
            clear hlb
            go_wp2_with fail
            refine C.mono ?_
            rintro e w' ⟨rfl, hq⟩; have hq' := hq.symm; subst hq'; clear hq C
            go_wp2
            go_ret
            exact ⟨AnsP.no fin.out, rfl⟩
          · have hor : (Op.bytesLess z.toList y.toList || z.toList == y.toList) = false := by rw [bl_or, hlb]; rfl
            have HLB : Hid (Op.bytesLess y.toList z.toList = true) := hlb
            have HT' : Hid (KTo K (k + 1)) := HT.out.step (by rw [← HZ.out]; exact HKK.out) (fun _ => by rw [← HZ.out, ← HY.out]; exact HLB.out)
            clear hlb
            go_wp2_with fail
            refine C.mono ?_
            rintro e w' ⟨rfl, hq⟩; have hq' := hq.symm; subst hq'; clear hq C
            go_wp2
            go_round
            case rel => exact ⟨k + 1, by omega, by go_num, HT'.out⟩
            case measure => simp [intOf]; omega
        · obtain rfl : k = 0 := by omega
          have HT' : Hid (KTo K 1) := HT.out.step (by rw [← HZ.out]; exact HKK.out) (fun h => absurd h (by omega))
          rw [Nat.add_zero] at hck
          clear hc hz hkk HCS
          go_wp2_with fail
          refine C.mono ?_
          rintro e w' ⟨rfl, hq⟩; have hq' := hq.symm; subst hq'; clear hq C
          go_wp2
          go_round
          case rel => exact ⟨1, by omega, by go_num, HT'.out⟩
          case measure => simp [intOf]; omega
    · have e : k = n := by omega
      subst e
      have HI : Hid (KOK K ↔ K.length ≤ 60) := KOK_iff (by rw [HLL.out]; exact HT.out)
      go_wp2
      go_ret
      exact ⟨AnsP.of (by rw [HI.out, HLL.out, decide_eq_true_eq]; omega), rfl⟩
def tnB (lf : Bool) (kn im : Nat) : Bool := decide (kn ≤ 4) && (if lf then decide (im = 0) else (decide (im = kn + 1) && decide (2 ≤ im)))
theorem isTN_eq (v : ND) : isTN v = tnB v.1 v.2.1.length v.2.2.length := rfl
set_option maxRecDepth 100000 in
set_option maxHeartbeats 4000000 in
theorem c_isNode (lf : Bool) (ka : Option Addr) (kn kc : Nat) (ia : Option Addr) (im ic : Nat) (w : World) (h1 : kn ≤ 1048576) (h2 : im ≤ 1048576) :
    Calls Try.prog 92 #[.agg #[.bool lf, .slice ka kn kc, .slice ia im ic]] w fun e w' => e = .returned (.bool (tnB lf kn im)) ∧ Below w.heap.size w w' := by
  obtain ⟨V, hV⟩ : ∃ Q, w.alloc (.cells #[.bool lf, .slice ka kn kc, .slice ia im ic] 72) = Q := ⟨_, rfl⟩
  have bV : Below w.heap.size w V := by rw [← hV]; exact (Below.refl _ _).alloc (Nat.le_refl _) _
  have XV : Hid (Box V w.heap.size 72 #[.bool lf, .slice ka kn kc, .slice ia im ic]) := by unfold Hid; rw [← hV]; exact Box.new _ _ _
  have x0 : V.cell? ⟨w.heap.size, 0, none⟩ = some (.bool lf) := XV.out.cell 0
  have x1 : V.cell? ⟨w.heap.size, 1, none⟩ = some (.slice ka kn kc) := XV.out.cell 1
  have x2 : V.cell? ⟨w.heap.size, 2, none⟩ = some (.slice ia im ic) := XV.out.cell 2
  have BV : Hid (Below w.heap.size w V) := bV
  clear bV XV
  have w1 : IntKind.i64.wrap ((kn : Int) + 1) = (kn : Int) + 1 := by rw [IntKind.wrap_i64]; omega
  cases lf
  · by_cases h3 : kn ≤ 4
    · by_cases h4 : im = kn + 1
      · by_cases h5 : 2 ≤ im
        all_goals
          have E : Hid (tnB false kn im = decide (2 ≤ im)) := (by unfold Hid tnB; simp [h3, h4])
          have q1 : ((im : Int) == (kn : Int) + 1) = true := by simp; omega
          go_enter Try.func92, Try.ntmps92
          clear h4
          go_wp2
          go_ret
          exact ⟨ret_bool (by rw [E.out]; simp; omega), BV.out⟩
      · have E : Hid (tnB false kn im = false) := by unfold Hid tnB; simp [h4]
        have q1 : ((im : Int) == (kn : Int) + 1) = false := by simp; omega
        clear h4
        go_enter Try.func92, Try.ntmps92
        go_wp2
        go_ret
        exact ⟨ret_bool E.out.symm, BV.out⟩
    · have E : Hid (tnB false kn im = false) := by unfold Hid tnB; simp [h3]
      go_enter Try.func92, Try.ntmps92
      go_wp2
      go_ret
      exact ⟨ret_bool E.out.symm, BV.out⟩
  · by_cases h3 : kn ≤ 4
    · by_cases h4 : im = 0
      · have E : Hid (tnB true kn im = true) := by unfold Hid tnB; simp [h3, h4]
        have q1 : ((im : Int) == 0) = true := by simp; omega
        clear h4
        go_enter Try.func92, Try.ntmps92
        go_wp2
        go_ret
        exact ⟨ret_bool E.out.symm, BV.out⟩
      · have E : Hid (tnB true kn im = false) := by unfold Hid tnB; simp [h4]
        have q1 : ((im : Int) == 0) = false := by simp; omega
        clear h4
        go_enter Try.func92, Try.ntmps92
        go_wp2
        go_ret
        exact ⟨ret_bool E.out.symm, BV.out⟩
    · have E : Hid (tnB true kn im = false) := by unfold Hid tnB; simp [h3]
      go_enter Try.func92, Try.ntmps92
      go_wp2
      go_ret
      exact ⟨ret_bool E.out.symm, BV.out⟩

end Go.Proofs.Ythnggpjgajkaeaa
