/-
  The walk of the law of FnKeys.
-/
import Derived.Test.YtkfkhfagehcmiaaDoorFkc
import Derived.Deep.QuietTactic
import Derived.BigQuiet
import Derived.Laws.IdiomStrings
namespace Go.Proofs.YtkfkhfagehcmiaaDoor
open Go Go.RowKit
attribute [local go_sem ↓] Go.wp_at_zero Go.wp_at_succ

theorem own_cap {w : World} {base e size m n cap : Nat} {a : Option Addr} {xs : List Value} (h : w.ownsRow base e size (.slice a n cap) m xs) : n ≤ cap ∧ cap ≤ maxLen := by
  rcases h.2 with ⟨hv, h0⟩ | ⟨g, cap', cur, hv, hb, hg, hnc, hcm, hcs, htake⟩
  · simp only [Value.slice.injEq] at hv
    obtain ⟨_, rfl, rfl⟩ := hv
    exact ⟨Nat.le_refl _, Nat.zero_le _⟩
  · simp only [Value.slice.injEq] at hv
    obtain ⟨_, rfl, rfl⟩ := hv
    exact ⟨hnc, hcm⟩
theorem okV_sz {v : VV} (h : okV v = true) : v.2.2.size ≤ 10 := by
  rcases okV_parts h with ⟨_, _, e⟩ | ⟨_, e⟩ | ⟨_, _, e⟩
  · rw [e]; exact Nat.zero_le _
  · rw [e]; exact Nat.zero_le _
  · unfold wordB at e
    simp only [Bool.and_eq_true, decide_eq_true_eq] at e
    exact e.1
theorem key_bytes {v : VV} (h : okV v = true) : ∀ z ∈ keyZ v, 0 ≤ z ∧ z < 256 := by
  intro z hz
  unfold keyZ at hz
  rcases okV_kind h with h0 | ⟨h1, h2, h3⟩ | ⟨h1, _⟩
  · rw [if_pos h0] at hz
    rw [List.mem_singleton.1 hz]; omega
  · rw [if_neg (by omega), if_pos h1] at hz
    unfold numZ at hz
    simp only [List.mem_cons, List.not_mem_nil, or_false] at hz
    rcases hz with rfl | rfl | rfl | rfl | rfl <;> omega
  · rw [if_neg (by omega), if_neg (by omega)] at hz
    rcases List.mem_cons.1 hz with rfl | hz
    · omega
    · rcases List.mem_append.1 hz with hz | hz
      · unfold strK at hz
        obtain ⟨c, _, rfl⟩ := List.mem_map.1 hz
        have := c.toNat_lt
        omega
      · rw [List.mem_singleton.1 hz]; omega
theorem flat_bytes {K : List VV} (h : ∀ v ∈ K, okV v = true) : ∀ z ∈ K.flatMap keyZ, 0 ≤ z ∧ z < 256 := fun z hz => by
  obtain ⟨v, hv, hz⟩ := List.mem_flatMap.1 hz
  exact key_bytes (h v hv) z hz
theorem flat_len {K : List VV} (h : ∀ v ∈ K, okV v = true) : (K.flatMap keyZ).length ≤ K.length * 12 := by
  induction K with
  | nil => simp
  | cons v K ih =>
    rw [List.flatMap_cons, List.length_append, List.length_cons]
    have h1 := keyZ_len (h v (List.mem_cons_self ..))
    have h2 := ih (fun u hu => h u (List.mem_cons_of_mem _ hu))
    omega
theorem kb_flat (K : List VV) : kbZ K K.length = K.flatMap keyZ := by unfold kbZ; rw [List.take_length]
theorem all_of {K : List VV} (h : ∀ v ∈ K, okV v = true) : allV K K.length = true := by unfold allV; rw [List.take_length]; exact List.all_eq_true.2 h
/-- The bytes of right values: what KeyBytes answers, and ReadKey of it. -/
theorem key_facts {K : List VV} (h : ∀ v ∈ K, okV v = true) (hn : K.length ≤ 4) : errK K K.length = 0 ∧ resK K K.length = K.flatMap keyZ ∧ errQ (K.flatMap keyZ) = 0 ∧ resQ (K.flatMap keyZ) = K := by
  obtain ⟨e1, e2⟩ := errK0 (vs := K) (n := K.length) (by omega) (all_of h)
  obtain ⟨e3, e4⟩ := ansQ0 (zs := K.flatMap keyZ) (by have := flat_len h; omega) (rk_key K h) (by omega)
  exact ⟨e1, by rw [e2, kb_flat], e3, e4⟩
theorem strK_son {zs : List Int} (h : ∀ z ∈ zs, 0 ≤ z ∧ z < 256) : strK (strOfNums zs) = zs := by
  show List.map _ (strOfNums zs).data.toList = zs
  rw [strOfNums_data, List.map_map]
  conv => rhs; rw [← List.map_id zs]
  apply List.map_congr_left
  intro z hz
  have := h z hz
  simp
  omega
theorem less_son {a b : List Int} (ha : ∀ z ∈ a, 0 ≤ z ∧ z < 256) (hb : ∀ z ∈ b, 0 ≤ z ∧ z < 256) : Op.bytesLess (strOfNums a).toList (strOfNums b).toList = lessZ a b := by
  have := lessS_Z (strOfNums a) (strOfNums b)
  rw [strK_son ha, strK_son hb] at this
  exact this
theorem sing_flat (u : VV) : [u].flatMap keyZ = keyZ u := by simp
theorem rd_one (w : World) (u : VV) : RdC (w.alloc (.cells #[.int .i64 u.1, .int .i64 u.2.1, .string u.2.2] 27)) (some ⟨w.heap.size, 0, none⟩) 1 [u] :=
  RdC.own (base := w.heap.size) (e := 27) (n := 1) (cap := 1) (World.ownsRow_lit w #[.int .i64 u.1, .int .i64 u.2.1, .string u.2.2] 1 (Nat.le_refl _) (by unfold maxLen; omega) rfl)
set_option maxRecDepth 100000 in
set_option maxHeartbeats 16000000 in
theorem law_FnKeys (a : Option Addr) (n c : Nat) (zs : List Int) (a' : Option Addr) (n' c' : Nat) (zs' : List Int) (w : World) (hr : RdV w a n (zs.map (Value.int .u8))) (hz : ∀ z ∈ zs, 0 ≤ z ∧ z < 256) (hr' : RdV w a' n' (zs'.map (Value.int .u8))) (hz' : ∀ z ∈ zs', 0 ≤ z ∧ z < 256) (ht : TabP w) :
    Calls Tryd.prog 4 #[.slice a n c, .slice a' n' c'] w fun e w' => e = .returned (.bool true) ∧ Below w.heap.size w w' := by
  have R : Hid (RdV w a n (zs.map (Value.int .u8))) := hr
  have R' : Hid (RdV w a' n' (zs'.map (Value.int .u8))) := hr'
  have HZ : Hid (∀ z ∈ zs, 0 ≤ z ∧ z < 256) := hz
  have HZ' : Hid (∀ z ∈ zs', 0 ≤ z ∧ z < 256) := hz'
  have HT : Hid (TabP w) := ht
  clear hr hr' hz hz' ht
  go_enter Tryd.func4, Tryd.ntmps4
  by_cases h1 : 1048576 < n
  · have c1 : (1048576 : Int) < (n : Int) := by omega
    go_wp2
    go_ret
    exact ⟨rfl, Below.refl _ _⟩
  have c1 : ¬ (1048576 : Int) < (n : Int) := by omega
  by_cases h2 : 1048576 < n'
  · have c2 : (1048576 : Int) < (n' : Int) := by omega
    go_wp2
    go_ret
    exact ⟨rfl, Below.refl _ _⟩
  have c2 : ¬ (1048576 : Int) < (n' : Int) := by omega
  go_wp2_with fail
  refine (c_valuesOf a n c zs w R.out HZ.out (by omega)).mono ?_
  rintro e w1 ⟨⟨K, ka, kc, rfl, hK, hok, o1⟩, hb⟩
  have HOK : Hid (∀ v ∈ K, okV v = true) := hok
  have B1 : Hid (Below w.heap.size w w1) := hb
  have RK1 : Hid (RdC w1 ka K.length K) := RdC.own o1
  obtain ⟨f1, f2, f3, f4⟩ := key_facts hok hK
  obtain ⟨ys, hys⟩ : ∃ ys, K.flatMap keyZ = ys := ⟨_, rfl⟩
  rw [hys] at f2 f3 f4
  have HY : Hid (∀ z ∈ ys, 0 ≤ z ∧ z < 256) := by unfold Hid; rw [← hys]; exact flat_bytes hok
  have ly : ys.length ≤ 48 := by rw [← hys]; have := flat_len hok; omega
  have CI : Hid (∀ (W : World), RdC W ka K.length K → Calls Tryd.prog 10 #[.slice ka K.length kc] W fun e w' => ∃ xa xc, e = .returned (.tuple #[.slice xa ys.length xc, .int .i64 0]) ∧ w'.ownsRow W.heap.size 5 1 (.slice xa ys.length xc) ys.length (ys.map (Value.int .u8)) ∧ Below W.heap.size W w') := fun W rd => by
    have := c_implK ka K.length kc K W rd (by omega) (fun v hv => by have := okV_sz (HOK.out v hv); omega)
    unfold AnsK at this
    rw [f1, f2] at this
    exact this
  have CS : Hid (∀ (W : World), RdC W ka K.length K → Calls Tryd.prog 11 #[.slice ka K.length kc] W fun e w' => ∃ xa xc, e = .returned (.tuple #[.slice xa ys.length xc, .int .i64 0]) ∧ w'.ownsRow W.heap.size 5 1 (.slice xa ys.length xc) ys.length (ys.map (Value.int .u8)) ∧ Below W.heap.size W w') := fun W rd => by
    have := c_specK ka K.length kc K W rd (by omega) (fun v hv => by have := okV_sz (HOK.out v hv); omega)
    unfold AnsK at this
    rw [f1, f2] at this
    exact this
  have CQ : Hid (∀ (W : World) (xa : Option Addr) (xc : Nat), RdV W xa ys.length (ys.map (Value.int .u8)) → ys.length ≤ xc → xc ≤ maxLen → Calls Tryd.prog 12 #[.slice xa ys.length xc] W fun e w' => ∃ qa qc, e = .returned (.tuple #[.slice qa K.length qc, .int .i64 0]) ∧ w'.ownsRow W.heap.size 27 3 (.slice qa K.length qc) K.length (cellsV K) ∧ Below W.heap.size W w') := fun W xa xc rd k1 k2 => by
    have := c_implQ xa ys.length xc ys W rd HY.out (by omega) k1 (by unfold maxLen at k2; omega)
    unfold AnsQ at this
    rw [f3, f4] at this
    exact this
  clear hb o1 hok f1 f2 f3 f4 hys
  go_wp2_with fail
  refine (CI.out w1 RK1.out).mono ?_
  rintro e w2 ⟨xa, xc, rfl, ox, hb⟩
  obtain ⟨x1, x2⟩ := own_cap ox
  have B2 : Hid (Below w.heap.size w w2) := B1.out.trans (hb.mono B1.out.size)
  have RK2 : Hid (RdC w2 ka K.length K) := RK1.out.below hb
  have RX2 : Hid (RdV w2 xa ys.length (ys.map (Value.int .u8))) := RdV.own ox
  have HX : Hid (ys.length ≤ xc ∧ xc ≤ maxLen) := ⟨x1, x2⟩
  clear hb ox B1 RK1 x1 x2 CI
  go_wp2_with fail
  refine (CS.out w2 RK2.out).mono ?_
  rintro e w3 ⟨ya, yc, rfl, oy, hb⟩
  have B3 : Hid (Below w.heap.size w w3) := B2.out.trans (hb.mono B2.out.size)
  have RK3 : Hid (RdC w3 ka K.length K) := RK2.out.below hb
  have RX3 : Hid (RdV w3 xa ys.length (ys.map (Value.int .u8))) := RX2.out.below hb
  have RY3 : Hid (RdV w3 ya ys.length (ys.map (Value.int .u8))) := RdV.own oy
  clear hb oy B2 RK2 RX2 CS
  go_wp2_with fail
  refine (CQ.out w3 xa xc RX3.out HX.out.1 HX.out.2).mono ?_
  rintro e w4 ⟨qa, qc, rfl, oq, hb⟩
  have B4 : Hid (Below w.heap.size w w4) := B3.out.trans (hb.mono B3.out.size)
  have RK4 : Hid (RdC w4 ka K.length K) := RK3.out.below hb
  have RX4 : RdV w4 xa ys.length (ys.map (Value.int .u8)) := RX3.out.below hb
  have RY4 : RdV w4 ya ys.length (ys.map (Value.int .u8)) := RY3.out.below hb
  have RQ4 : Hid (RdC w4 qa K.length K) := RdC.own oq
  obtain ⟨S, hS⟩ : ∃ S, S = strOfNums ys := ⟨_, rfl⟩
  have cvx : (convert 30 9 (.slice xa ys.length xc)).run Tryd.prog w4 = .ok (.string S) w4 := by rw [hS]; exact conv8 RX4
  have cvy : (convert 30 9 (.slice ya ys.length yc)).run Tryd.prog w4 = .ok (.string S) w4 := by rw [hS]; exact conv8 RY4
  clear hb oq B3 RK3 RX3 RY3 CQ hS RX4 RY4
  go_wp2_with fail
  refine (c_sameV qa ka K.length qc kc K w4 RQ4.out RK4.out (by omega)).mono ?_
  rintro e w5 ⟨rfl, hb⟩
  have B5 : Hid (Below w.heap.size w w5) := B4.out.trans (hb.mono B4.out.size)
  clear hb B4 RK4 RQ4 cvx cvy
  go_wp2_with fail
  refine (c_valueOf a n c zs w5 (R.out.below B5.out) HZ.out (by omega)).mono ?_
  rintro e w6 ⟨⟨u, rfl, hu⟩, hb⟩
  have HU : Hid (okV u = true) := hu
  obtain ⟨w7, hw7⟩ : ∃ Q, w6.alloc (.cells #[.int .i64 u.1, .int .i64 u.2.1, .string u.2.2] 27) = Q := ⟨_, rfl⟩
  have b7 : Below w6.heap.size w6 w7 := by rw [← hw7]; exact (Below.refl _ _).alloc (Nat.le_refl _) _
  have XU : Hid (Box w7 w6.heap.size 27 #[.int .i64 u.1, .int .i64 u.2.1, .string u.2.2]) := by unfold Hid; rw [← hw7]; exact Box.new _ _ _
  have B7 : Hid (Below w.heap.size w w7) := (B5.out.trans (hb.mono B5.out.size)).trans (b7.mono (Nat.le_trans B5.out.size hb.size))
  clear hb hu b7 B5
  go_wp2_with fail
  refine (c_valueOf a' n' c' zs' w7 (R'.out.below B7.out) HZ'.out (by omega)).mono ?_
  rintro e w8 ⟨⟨v, rfl, hv⟩, hb⟩
  have HV : Hid (okV v = true) := hv
  obtain ⟨w9, hw9⟩ : ∃ Q, w8.alloc (.cells #[.int .i64 v.1, .int .i64 v.2.1, .string v.2.2] 27) = Q := ⟨_, rfl⟩
  have b9 : Below w8.heap.size w8 w9 := by rw [← hw9]; exact (Below.refl _ _).alloc (Nat.le_refl _) _
  have b79 : Below w7.heap.size w7 w9 := hb.trans (b9.mono hb.size)
  have XU9 : Hid (Box w9 w6.heap.size 27 #[.int .i64 u.1, .int .i64 u.2.1, .string u.2.2]) := XU.out.belowS b79
  have XV9 : Hid (Box w9 w8.heap.size 27 #[.int .i64 v.1, .int .i64 v.2.1, .string v.2.2]) := by unfold Hid; rw [← hw9]; exact Box.new _ _ _
  have B9 : Hid (Below w.heap.size w w9) := B7.out.trans (b79.mono B7.out.size)
  have CK : Hid (∀ (W : World) (z : VV), okV z = true → Calls Tryd.prog 10 #[.slice (some ⟨W.heap.size, 0, none⟩) 1 1] (W.alloc (.cells #[.int .i64 z.1, .int .i64 z.2.1, .string z.2.2] 27)) fun e w' => ∃ xa xc, e = .returned (.tuple #[.slice xa (keyZ z).length xc, .int .i64 0]) ∧ RdV w' xa (keyZ z).length ((keyZ z).map (Value.int .u8)) ∧ Below (W.alloc (.cells #[.int .i64 z.1, .int .i64 z.2.1, .string z.2.2] 27)).heap.size (W.alloc (.cells #[.int .i64 z.1, .int .i64 z.2.1, .string z.2.2] 27)) w') := fun W z hz => by
    have h1 : ∀ v ∈ [z], okV v = true := fun v hv => by rw [List.mem_singleton.1 hv]; exact hz
    have := c_implK (some ⟨W.heap.size, 0, none⟩) 1 1 [z] _ (rd_one W z) (by omega) (fun v hv => by have := okV_sz (h1 v hv); omega)
    unfold AnsK at this
    obtain ⟨f1, f2, _, _⟩ := key_facts h1 (by simp)
    have e1 : [z].length = 1 := rfl
    rw [e1] at f1 f2
    rw [f1, f2, sing_flat] at this
    refine this.mono ?_
    rintro e w' ⟨xa, xc, he, o, hb⟩
    exact ⟨xa, xc, he, RdV.own o, hb⟩
  clear hb hv b9 b79 XU B7 hw7
  have u0 : w9.cell? ⟨w6.heap.size, 0, none⟩ = some (.int .i64 u.1) := XU9.out.cell 0
  have u1 : w9.cell? ⟨w6.heap.size, 1, none⟩ = some (.int .i64 u.2.1) := XU9.out.cell 1
  have u2 : w9.cell? ⟨w6.heap.size, 2, none⟩ = some (.string u.2.2) := XU9.out.cell 2
  go_wp2_with fail
  refine (CK.out w9 u HU.out).mono ?_
  rintro e wA ⟨pa, pc, rfl, rp, hb⟩
  have bA : Below w9.heap.size w9 wA := ((Below.refl _ _).alloc (Nat.le_refl _) _).trans (hb.mono (by simp))
  have XUA : Hid (Box wA w6.heap.size 27 #[.int .i64 u.1, .int .i64 u.2.1, .string u.2.2]) := XU9.out.belowS bA
  have XVA : Hid (Box wA w8.heap.size 27 #[.int .i64 v.1, .int .i64 v.2.1, .string v.2.2]) := XV9.out.belowS bA
  have BA : Hid (Below w.heap.size w wA) := B9.out.trans (bA.mono B9.out.size)
  have RPA : Hid (RdV wA pa (keyZ u).length ((keyZ u).map (Value.int .u8))) := rp
  clear hb rp bA XU9 XV9 B9 u0 u1 u2 hw9
  have v0 : wA.cell? ⟨w8.heap.size, 0, none⟩ = some (.int .i64 v.1) := XVA.out.cell 0
  have v1 : wA.cell? ⟨w8.heap.size, 1, none⟩ = some (.int .i64 v.2.1) := XVA.out.cell 1
  have v2 : wA.cell? ⟨w8.heap.size, 2, none⟩ = some (.string v.2.2) := XVA.out.cell 2
  go_wp2_with fail
  refine (CK.out wA v HV.out).mono ?_
  rintro e wB ⟨ra, rc, rfl, rr, hb⟩
  have bB : Below wA.heap.size wA wB := ((Below.refl _ _).alloc (Nat.le_refl _) _).trans (hb.mono (by simp))
  have XUB : Hid (Box wB w6.heap.size 27 #[.int .i64 u.1, .int .i64 u.2.1, .string u.2.2]) := XUA.out.belowS bB
  have XVB : Hid (Box wB w8.heap.size 27 #[.int .i64 v.1, .int .i64 v.2.1, .string v.2.2]) := XVA.out.belowS bB
  have BB : Hid (Below w.heap.size w wB) := BA.out.trans (bB.mono BA.out.size)
  have RPB : Hid (RdV wB pa (keyZ u).length ((keyZ u).map (Value.int .u8))) := RPA.out.below bB
  have RRB : Hid (RdV wB ra (keyZ v).length ((keyZ v).map (Value.int .u8))) := rr
  clear hb rr bB XUA XVA BA RPA v0 v1 v2 CK
  obtain ⟨C, hC⟩ : ∃ C, cmpV u.1 u.2.1 u.2.2 v.1 v.2.1 v.2.2 = C := ⟨_, rfl⟩
  have su := okV_sz HU.out
  have sv := okV_sz HV.out
  have CC : Hid (∀ W : World, Calls Tryd.prog 15 #[.agg #[.int .i64 u.1, .int .i64 u.2.1, .string u.2.2], .agg #[.int .i64 v.1, .int .i64 v.2.1, .string v.2.2]] W fun e w' => e = .returned (.tuple #[.int .i64 C, .int .i64 0]) ∧ Below W.heap.size W w') := fun W => by
    have := c_implCmp u.1 u.2.1 u.2.2 v.1 v.2.1 v.2.2 W (by unfold maxLen; omega) (by unfold maxLen; omega)
    unfold cmpA cmpE at this
    rw [show valB u.1 u.2.1 u.2.2 = true from HU.out, show valB v.1 v.2.1 v.2.2 = true from HV.out] at this
    rw [← hC]
    exact this
  obtain ⟨S2, hS2⟩ : ∃ S, vtS u.1 u.2.1 u.2.2 = S := ⟨_, rfl⟩
  have e2 : vtE u.1 u.2.1 u.2.2 = 0 := by unfold vtE; rw [show valB u.1 u.2.1 u.2.2 = true from HU.out]; rfl
  have CT : Hid (∀ W : World, TabP W → Calls Tryd.prog 8 #[.agg #[.int .i64 u.1, .int .i64 u.2.1, .string u.2.2]] W fun e w' => e = .returned (.tuple #[.string S2, .int .i64 0]) ∧ Below W.heap.size W w') := fun W tw => by
    have := c_implVT u.1 u.2.1 u.2.2 W (by unfold maxLen; omega) tw
    unfold AnsT at this
    rw [hS2, e2] at this
    exact this
  have CU : Hid (∀ W : World, Calls Tryd.prog 6 #[.agg #[.int .i64 u.1, .int .i64 u.2.1, .string u.2.2]] W fun e w' => e = .returned (.tuple #[.string S2, .int .i64 0]) ∧ Below W.heap.size W w') := fun W => by
    have := c_specVT u.1 u.2.1 u.2.2 W (by unfold maxLen; omega)
    unfold AnsT at this
    rw [hS2, e2] at this
    exact this
  have CV : Hid (∀ W : World, Calls Tryd.prog 16 #[.agg #[.int .i64 u.1, .int .i64 u.2.1, .string u.2.2]] W fun e w' => e = .returned (.bool true) ∧ Below W.heap.size W w') := fun W => by
    have := c_implOK u.1 u.2.1 u.2.2 W (by unfold maxLen; omega)
    rw [show valB u.1 u.2.1 u.2.2 = true from HU.out] at this
    exact this
  obtain ⟨k1, k2, k3⟩ := key_lt HU.out HV.out
  rw [hC] at k1 k2 k3
  rw [← less_son (key_bytes HU.out) (key_bytes HV.out)] at k1
  rw [← less_son (key_bytes HV.out) (key_bytes HU.out)] at k2
  obtain ⟨P, hP⟩ : ∃ P, strOfNums (keyZ u) = P := ⟨_, rfl⟩
  obtain ⟨Q, hQ⟩ : ∃ Q, strOfNums (keyZ v) = Q := ⟨_, rfl⟩
  rw [hP, hQ] at k1 k2
  have HK1 : Hid (C < 0 ↔ Op.bytesLess P.toList Q.toList = true) := k1
  have HK2 : Hid (0 < C ↔ Op.bytesLess Q.toList P.toList = true) := k2
  have HK3 : Hid (C = 0 ↔ u = v) := k3
  have HPQ : Hid (u = v → P = Q) := fun e => by rw [← hP, ← hQ, e]
  have HCV : Hid (∀ W : World, Below wB.heap.size wB W → ((convert 30 9 (.slice pa (keyZ u).length pc)).run Tryd.prog W = .ok (.string P) W) ∧ ((convert 30 9 (.slice ra (keyZ v).length rc)).run Tryd.prog W = .ok (.string Q) W)) := fun W hW => by
    rw [← hP, ← hQ]
    exact ⟨conv8 (RPB.out.below hW), conv8 (RRB.out.below hW)⟩
  clear hC hS2 e2 k1 k2 k3 hP hQ su sv
  have u0 : wB.cell? ⟨w6.heap.size, 0, none⟩ = some (.int .i64 u.1) := XUB.out.cell 0
  have u1 : wB.cell? ⟨w6.heap.size, 1, none⟩ = some (.int .i64 u.2.1) := XUB.out.cell 1
  have u2 : wB.cell? ⟨w6.heap.size, 2, none⟩ = some (.string u.2.2) := XUB.out.cell 2
  have v0 : wB.cell? ⟨w8.heap.size, 0, none⟩ = some (.int .i64 v.1) := XVB.out.cell 0
  have v1 : wB.cell? ⟨w8.heap.size, 1, none⟩ = some (.int .i64 v.2.1) := XVB.out.cell 1
  have v2 : wB.cell? ⟨w8.heap.size, 2, none⟩ = some (.string v.2.2) := XVB.out.cell 2
  go_wp2_with fail
  refine (CC.out wB).mono ?_
  rintro e wC ⟨rfl, hb⟩
  have XC : Hid (Below wB.heap.size wB wC) := hb
  clear hb u0 u1 u2 v0 v1 v2
  have u0 : wC.cell? ⟨w6.heap.size, 0, none⟩ = some (.int .i64 u.1) := (XUB.out.belowS XC.out).cell 0
  have u1 : wC.cell? ⟨w6.heap.size, 1, none⟩ = some (.int .i64 u.2.1) := (XUB.out.belowS XC.out).cell 1
  have u2 : wC.cell? ⟨w6.heap.size, 2, none⟩ = some (.string u.2.2) := (XUB.out.belowS XC.out).cell 2
  have v0 : wC.cell? ⟨w8.heap.size, 0, none⟩ = some (.int .i64 v.1) := (XVB.out.belowS XC.out).cell 0
  have v1 : wC.cell? ⟨w8.heap.size, 1, none⟩ = some (.int .i64 v.2.1) := (XVB.out.belowS XC.out).cell 1
  have v2 : wC.cell? ⟨w8.heap.size, 2, none⟩ = some (.string v.2.2) := (XVB.out.belowS XC.out).cell 2
  go_wp2_with fail
  refine (CT.out wC (HT.out.below (BB.out.trans (XC.out.mono BB.out.size)))).mono ?_
  rintro e wD ⟨rfl, hb⟩
  have XD : Hid (Below wB.heap.size wB wD) := XC.out.trans (hb.mono XC.out.size)
  clear hb u0 u1 u2 v0 v1 v2
  have u0 : wD.cell? ⟨w6.heap.size, 0, none⟩ = some (.int .i64 u.1) := (XUB.out.belowS XD.out).cell 0
  have u1 : wD.cell? ⟨w6.heap.size, 1, none⟩ = some (.int .i64 u.2.1) := (XUB.out.belowS XD.out).cell 1
  have u2 : wD.cell? ⟨w6.heap.size, 2, none⟩ = some (.string u.2.2) := (XUB.out.belowS XD.out).cell 2
  have v0 : wD.cell? ⟨w8.heap.size, 0, none⟩ = some (.int .i64 v.1) := (XVB.out.belowS XD.out).cell 0
  have v1 : wD.cell? ⟨w8.heap.size, 1, none⟩ = some (.int .i64 v.2.1) := (XVB.out.belowS XD.out).cell 1
  have v2 : wD.cell? ⟨w8.heap.size, 2, none⟩ = some (.string v.2.2) := (XVB.out.belowS XD.out).cell 2
  go_wp2_with fail
  refine (CU.out wD).mono ?_
  rintro e wE ⟨rfl, hb⟩
  have XE : Hid (Below wB.heap.size wB wE) := XD.out.trans (hb.mono XD.out.size)
  clear hb u0 u1 u2 v0 v1 v2
  have u0 : wE.cell? ⟨w6.heap.size, 0, none⟩ = some (.int .i64 u.1) := (XUB.out.belowS XE.out).cell 0
  have u1 : wE.cell? ⟨w6.heap.size, 1, none⟩ = some (.int .i64 u.2.1) := (XUB.out.belowS XE.out).cell 1
  have u2 : wE.cell? ⟨w6.heap.size, 2, none⟩ = some (.string u.2.2) := (XUB.out.belowS XE.out).cell 2
  have v0 : wE.cell? ⟨w8.heap.size, 0, none⟩ = some (.int .i64 v.1) := (XVB.out.belowS XE.out).cell 0
  have v1 : wE.cell? ⟨w8.heap.size, 1, none⟩ = some (.int .i64 v.2.1) := (XVB.out.belowS XE.out).cell 1
  have v2 : wE.cell? ⟨w8.heap.size, 2, none⟩ = some (.string v.2.2) := (XVB.out.belowS XE.out).cell 2
  go_wp2_with fail
  refine (CV.out wE).mono ?_
  rintro e wF ⟨rfl, hb⟩
  have XF : Hid (Below wB.heap.size wB wF) := XE.out.trans (hb.mono XE.out.size)
  clear hb u0 u1 u2 v0 v1 v2
  have u0 : wF.cell? ⟨w6.heap.size, 0, none⟩ = some (.int .i64 u.1) := (XUB.out.belowS XF.out).cell 0
  have u1 : wF.cell? ⟨w6.heap.size, 1, none⟩ = some (.int .i64 u.2.1) := (XUB.out.belowS XF.out).cell 1
  have u2 : wF.cell? ⟨w6.heap.size, 2, none⟩ = some (.string u.2.2) := (XUB.out.belowS XF.out).cell 2
  have v0 : wF.cell? ⟨w8.heap.size, 0, none⟩ = some (.int .i64 v.1) := (XVB.out.belowS XF.out).cell 0
  have v1 : wF.cell? ⟨w8.heap.size, 1, none⟩ = some (.int .i64 v.2.1) := (XVB.out.belowS XF.out).cell 1
  have v2 : wF.cell? ⟨w8.heap.size, 2, none⟩ = some (.string v.2.2) := (XVB.out.belowS XF.out).cell 2
  have BF : Hid (Below w.heap.size w wF) := BB.out.trans (XF.out.mono BB.out.size)
  obtain ⟨cvp, cvq⟩ := HCV.out wF XF.out
  rcases Int.lt_trichotomy C 0 with c0 | c0 | c0
  · have c3 : ¬ 0 < C := by omega
    have b1 : Op.bytesLess P.toList Q.toList = true := HK1.out.1 c0
    have b2 : Op.bytesLess Q.toList P.toList = false := by
      rw [Bool.eq_false_iff]
      exact fun h => c3 (HK2.out.2 h)
    have b3 : (C == 0) = false := by simp; omega
    have d1 : decide (C < 0) = true := decide_eq_true c0
    have d2 : decide (0 < C) = false := decide_eq_false c3
    have npq : ¬ P.toList = Q.toList := fun e => by
      have hh := b1
      rw [e, less_irr] at hh
      cases hh
    have bpq : (P.toList == Q.toList) = false := by simpa using npq
    have hne : ¬ u = v := fun e => by have := HK3.out.2 e; omega
    by_cases q1 : u.1 = v.1
    · have n1 : (u.1 == v.1) = true := by simpa using q1
      by_cases q2 : u.2.1 = v.2.1
      · have n2 : (u.2.1 == v.2.1) = true := by simpa using q2
        have q3 : ¬ u.2.2.toList = v.2.2.toList := fun e => hne (by
          obtain ⟨x1, x2, x3⟩ := u
          obtain ⟨y1, y2, y3⟩ := v
          have e3 : x3 = y3 := toList_inj e
          simp only at q1 q2
          rw [q1, q2, e3])
        have n3 : (u.2.2.toList == v.2.2.toList) = false := by simpa using q3
        clear q1 q2 q3 hne
        go_wp2
        go_ret
        exact ⟨rfl, BF.out⟩
      · have n2 : (u.2.1 == v.2.1) = false := by simpa using q2
        clear q1 q2 hne
        go_wp2
        go_ret
        exact ⟨rfl, BF.out⟩
    · have n1 : (u.1 == v.1) = false := by simpa using q1
      clear q1 hne
      go_wp2
      go_ret
      exact ⟨rfl, BF.out⟩
  · subst c0
    have huv : u = v := HK3.out.1 rfl
    have hpq : P = Q := HPQ.out huv
    subst huv
    subst hpq
    have b1 : Op.bytesLess P.toList P.toList = false := less_irr _
    go_wp2
    go_ret
    exact ⟨rfl, BF.out⟩
  · have c3 : ¬ C < 0 := by omega
    have b2 : Op.bytesLess Q.toList P.toList = true := HK2.out.1 c0
    have b1 : Op.bytesLess P.toList Q.toList = false := by
      rw [Bool.eq_false_iff]
      exact fun h => c3 (HK1.out.2 h)
    have b3 : (C == 0) = false := by simp; omega
    have d1 : decide (C < 0) = false := decide_eq_false c3
    have d2 : decide (0 < C) = true := decide_eq_true c0
    have npq : ¬ P.toList = Q.toList := fun e => by
      have hh := b2
      rw [e, less_irr] at hh
      cases hh
    have bpq : (P.toList == Q.toList) = false := by simpa using npq
    have hne : ¬ u = v := fun e => by have := HK3.out.2 e; omega
    by_cases q1 : u.1 = v.1
    · have n1 : (u.1 == v.1) = true := by simpa using q1
      by_cases q2 : u.2.1 = v.2.1
      · have n2 : (u.2.1 == v.2.1) = true := by simpa using q2
        have q3 : ¬ u.2.2.toList = v.2.2.toList := fun e => hne (by
          obtain ⟨x1, x2, x3⟩ := u
          obtain ⟨y1, y2, y3⟩ := v
          have e3 : x3 = y3 := toList_inj e
          simp only at q1 q2
          rw [q1, q2, e3])
        have n3 : (u.2.2.toList == v.2.2.toList) = false := by simpa using q3
        clear q1 q2 q3 hne
        go_wp2
        go_ret
        exact ⟨rfl, BF.out⟩
      · have n2 : (u.2.1 == v.2.1) = false := by simpa using q2
        clear q1 q2 hne
        go_wp2
        go_ret
        exact ⟨rfl, BF.out⟩
    · have n1 : (u.1 == v.1) = false := by simpa using q1
      clear q1 hne
      go_wp2
      go_ret
      exact ⟨rfl, BF.out⟩


end Go.Proofs.YtkfkhfagehcmiaaDoor
