/-
  The walk of the law FnCheck: the sum is the specification's, and changes with each bit.
-/
import Derived.Test.YtahigniblgpoaaaDoorCrc
import Derived.Deep.RegionHeld3
import Derived.Deep.DrawnRows
import Derived.Deep.AppendLies
import Derived.ProofKit
import Derived.OpenShut
namespace Go.Proofs.YtahigniblgpoaaaDoor
open Go Go.RowKit
attribute [local go_sem ↓] Go.wp_at_zero Go.wp_at_succ

/-- The choice that some bytes make. -/
def atv (zs : List Int) (i n : Nat) : Nat :=
  if n ≤ 1 then 0 else if zs.length = 0 then i * 7 % n else ((zs.getD (i % zs.length) 0).toNat * 31 + (zs.getD ((i + 1) % zs.length) 0).toNat + i / zs.length) % n
theorem atv_lt (zs : List Int) (i n : Nat) (h : 0 < n) : atv zs i n < n := by
  unfold atv
  split
  · exact h
  · split <;> exact Nat.mod_lt _ h

theorem w64 (x : Nat) (h : x < 4294967296) : wrap64 (x : Int) = x := by unfold wrap64; omega
theorem at_val {zs : List Int} {i n m c c' : Nat} (hl : zs.length = m) (hm : 0 < m) (hn : ¬ n ≤ 1) (hi : i ≤ 1000) (hc : (c : Int) = zs.getD (i % m) 0) (hc' : (c' : Int) = zs.getD ((i + 1) % m) 0) (b : c < 256) (b' : c' < 256) :
    (wrap64 ((c : Int) * 31 + (c' : Int) + wrap64 ((i : Int) / (m : Int)))).tmod (n : Int) = (atv zs i n : Nat) := by
  have e1 : ((i : Int) / (m : Int)) = ((i / m : Nat) : Int) := by simp
  have hd : i / m ≤ 1000 := Nat.le_trans (Nat.div_le_self _ _) hi
  rw [e1, w64 _ (by omega)]
  have e2 : ((c : Int) * 31 + (c' : Int) + ((i / m : Nat) : Int)) = ((c * 31 + c' + i / m : Nat) : Int) := by simp
  rw [e2, w64 _ (by omega), Int.tmod_eq_emod_of_nonneg (Int.natCast_nonneg _)]
  unfold atv
  rw [if_neg hn, if_neg (by omega), hl, ← hc, ← hc']
  simp

set_option maxHeartbeats 1000000 in
theorem c_at (a : Option Addr) (m cap : Nat) (zs : List Int) (i n : Nat) (w : World) (hr : Rd w a m zs) (hm : m ≤ 1048576) (hi : i ≤ 1000) (hn : n ≤ 1048576) :
    Calls Tryd.prog 7 #[.slice a m cap, .int .i64 i, .int .i64 n] w fun e w' => e = .returned (.int .i64 (atv zs i n)) ∧ ∃ q, w' = w.drewN q := by
  have hbd := hr.bd
  obtain ⟨hl, hzb, hcs⟩ := hr
  by_cases h1 : n ≤ 1
  · have e : Hid (atv zs i n = 0) := by unfold Hid atv; rw [if_pos h1]
    go_enter Tryd.func7, Tryd.ntmps7
    go_wp2
    go_ret
    exact ⟨ret_i (by rw [e.out]; rfl), 0, rfl⟩
  · by_cases h2 : m = 0
    · have e : Hid (atv zs i n = i * 7 % n) := by unfold Hid atv; rw [if_neg h1, if_pos (by omega)]
      have e2 : ((m : Int) == 0) = true := by simp [h2]
      clear h2
      go_enter Tryd.func7, Tryd.ntmps7
      go_wp2
      go_ret
      exact ⟨ret_i (by rw [e.out]; simp), 0, rfl⟩
    · have e2 : ((m : Int) == 0) = false := by simp [h2]
      obtain ⟨b, off, rfl, hc⟩ := hcs (by omega)
      have g0 : (0 : Int) < m := by omega
      have l1 : i % m < m := Nat.mod_lt _ (by omega)
      have l2 : (i + 1) % m < m := Nat.mod_lt _ (by omega)
      obtain ⟨z, hz⟩ : ∃ z, z = zs.getD (i % m) 0 := ⟨_, rfl⟩
      obtain ⟨z', hz'⟩ : ∃ z, z = zs.getD ((i + 1) % m) 0 := ⟨_, rfl⟩
      have hck : w.cell? ⟨b, off + i % m, none⟩ = some (.int .u8 z) := by rw [hz]; exact hc _ l1
      have hck' : w.cell? ⟨b, off + (i + 1) % m, none⟩ = some (.int .u8 z') := by rw [hz']; exact hc _ l2
      have b1 : 0 ≤ z ∧ z < 256 := by rw [hz]; exact hbd _
      have b2 : 0 ≤ z' ∧ z' < 256 := by rw [hz']; exact hbd _
      have HZ : Hid (z = _) := hz
      have HZ' : Hid (z' = _) := hz'
      have p1 : (0 : Int) ≤ (i : Int) % (m : Int) := by omega
      have p2 : (i : Int) % (m : Int) < (m : Int) := by omega
      have p3 : (0 : Int) ≤ ((i : Int) + 1) % (m : Int) := Int.emod_nonneg _ (by omega)
      have p4 : ((i : Int) + 1) % (m : Int) < (m : Int) := Int.emod_lt_of_pos _ (by omega)
      clear hz hz' hc hbd hzb hcs
      obtain ⟨c, rfl⟩ := Int.eq_ofNat_of_zero_le b1.1
      obtain ⟨c', rfl⟩ := Int.eq_ofNat_of_zero_le b2.1
      go_enter Tryd.func7, Tryd.ntmps7
      go_wp2_with fail
      go_quiet (fail)
      go_wp2
      go_ret
      exact ⟨ret_i (at_val hl (by omega) h1 hi HZ.out HZ'.out (by omega) (by omega)), _, rfl⟩

theorem TabH.below {w w' : World} (h : TabH w) (hb : Below w.heap.size w w') : TabH w' := fun i hi =>
  (hb.cell (p := ⟨0, i, none⟩) (World.block_lt_of_cell? w ⟨0, i, none⟩ (h i hi))).trans (h i hi)
theorem below_drewN {B : Nat} {a w : World} (h : Below B a w) (q : Nat) : Below B a (w.drewN q) := ⟨h.os, h.tape, h.output, h.size, h.block⟩
theorem addr_add (b off i : Nat) : (⟨b, off, none⟩ : Addr).add i = ⟨b, off + i, none⟩ := by unfold Addr.add; split <;> simp_all

set_option maxHeartbeats 2000000 in
theorem law3_hi (a : Option Addr) (n cap : Nat) (zs : List Int) (a1 : Option Addr) (n1 cap1 : Nat) (w : World) (hr : Rd w a n zs) (hm : n ≤ maxLen) (hm1 : n1 ≤ maxLen) (ht : TabH w)
    (hh : 1048576 < n ∨ 1048576 < n1 ∨ 65536 < n ∨ n = 0) :
    Calls Tryd.prog 3 #[.slice a n cap, .slice a1 n1 cap1] w fun e w' => e = .returned (.bool true) ∧ Below w.heap.size w w' := by
  unfold maxLen at hm hm1
  have HT : Hid (TabH w) := ht
  have HR : Hid (Rd w a n zs) := hr
  clear ht hr
  by_cases h : 1048576 < n
  · go_enter Tryd.func3, Tryd.ntmps3
    go_wp2
    go_ret
    exact ⟨rfl, Below.refl _ _⟩
  · by_cases h1 : 1048576 < n1
    · go_enter Tryd.func3, Tryd.ntmps3
      go_wp2
      go_ret
      exact ⟨rfl, Below.refl _ _⟩
    · by_cases h2 : 65536 < n
      · have e : sumI zs n = 0 := sum_hi h2
        go_enter Tryd.func3, Tryd.ntmps3
        go_wp2_with (go_at_call 5; refine (c12 _ _ _ zs _ HR.out (by omega) HT.out).mono ?_; rintro e w' ⟨rfl, rfl⟩)
        go_ret
        exact ⟨ret_b (by simp), Below.refl _ _⟩
      · have h3 : n = 0 := by omega
        have e0 : ((n : Int) == 0) = true := by simp [h3]
        clear hh h3
        go_enter Tryd.func3, Tryd.ntmps3
        go_wp2_with (first | (go_at_call 5; refine (c12 _ _ _ zs _ HR.out (by omega) HT.out).mono ?_; rintro e w' ⟨rfl, rfl⟩) | (go_at_call 6; refine (c10 _ _ _ zs _ HR.out (by omega)).mono ?_; rintro e w' ⟨rfl, rfl⟩))
        go_ret
        exact ⟨ret_b (by simp), Below.refl _ _⟩

theorem infoB : (Tryd.prog.info? 5).map (fun i => (i.zero, i.size, i.bytes)) = some (some (.int .u8 0), 1, 1) := by kernel_rfl

theorem xor_ne (c s : Nat) (h : s ≠ 0) : c ^^^ s ≠ c := by
  intro e
  have := congrArg (c ^^^ ·) e
  simp only [← Nat.xor_assoc, Nat.xor_self, Nat.zero_xor] at this
  exact h this
theorem flip_val (c k : Nat) (hc : c < 256) (hk : k < 8) : ∃ d : Nat, bits .xor .u8 (c : Int) (IntKind.u8.wrap (2 ^ min (IntKind.u64.wrap (k : Int)).toNat 8)) = (d : Int) ∧ d < 256 ∧ d ≠ c := by
  refine ⟨c ^^^ 2 ^ k, ?_, ?_, xor_ne c _ (Nat.pos_iff_ne_zero.1 (Nat.two_pow_pos k))⟩
  · rw [← u8_xor_nat c (2 ^ k) hc (by have := Nat.pow_lt_pow_right (a := 2) (by omega) hk; simpa using this)]
    rcases k with _ | _ | _ | _ | _ | _ | _ | _ | k
    all_goals first | omega | rfl
  · exact Nat.xor_lt_two_pow (n := 8) hc (Nat.pow_lt_pow_right (by omega) hk)
theorem bytes_set {zs : List Int} {r d : Nat} (h : ∀ z ∈ zs, 0 ≤ z ∧ z < 256) (hd : d < 256) : ∀ z ∈ zs.set r (d : Int), 0 ≤ z ∧ z < 256 := fun z hz => by
  rcases List.mem_or_eq_of_mem_set hz with h1 | h1
  · exact h z h1
  · rw [h1]; omega
theorem sum_flip {zs : List Int} {n r d : Nat} (hz : ∀ z ∈ zs, 0 ≤ z ∧ z < 256) (hl : zs.length = n) (hr : r < n) (hn : n ≤ 65536) (hd : d < 256) (hne : (d : Int) ≠ zs.getD r 0) : (sumI (zs.set r (d : Int)) n != sumI zs n) = true := by
  have := Crc.crc_changes zs r d hz (by omega) (by omega) hne
  rw [sum_lo (by omega), sum_lo (by omega), bne_iff_ne]
  intro e
  exact this (by exact_mod_cast e)

set_option maxHeartbeats 2000000 in
theorem law3_lo (b off n cap : Nat) (zs : List Int) (a1 : Option Addr) (n1 cap1 : Nat) (ys : List Int) (w : World) (hr : Rd w (some ⟨b, off, none⟩) n zs) (hr1 : Rd w a1 n1 ys) (ht : TabH w)
    (h0 : 0 < n) (h2 : n ≤ 65536) (h1 : n1 ≤ 1048576) :
    Calls Tryd.prog 3 #[.slice (some ⟨b, off, none⟩) n cap, .slice a1 n1 cap1] w fun e w' => e = .returned (.bool true) ∧ Below w.heap.size w w' := by
  have HT : Hid (TabH w) := ht
  have HR : Hid (Rd w _ n zs) := hr
  have HR1 : Hid (Rd w a1 n1 ys) := hr1
  obtain ⟨hl, hzb, hcs⟩ := hr
  obtain ⟨b', off', heq, hc⟩ := hcs h0
  cases heq
  have e0 : ((n : Int) == 0) = false := by simp; omega
  obtain ⟨i0, hi, hz0, hz1, hz2⟩ := info_parts infoB
  have hbw : b < w.heap.size := World.block_lt_of_cell? w ⟨b, off + 0, none⟩ (hc 0 h0)
  have HC : Hid (_) := hc
  have HZ : Hid (_) := hzb
  clear ht hr1 hcs hc hzb
  have hown0 : (w.alloc (.cells #[] 5)).ownsRow w.heap.size 5 1 (.slice (some ⟨w.heap.size, 0, none⟩) 0 0) 0 [] := World.ownsRow_lit w #[] 0 (Nat.le_refl _) (Nat.zero_le _) rfl
  have HN : Hid (∀ j u, (zs.map (Value.int .u8))[j]? = some u → (w.alloc (.cells #[] 5)).cell? ((⟨b, off, none⟩ : Addr).add j) = some u) := fun j u hu => by
    have hj : j < zs.length := by
      rcases Nat.lt_or_ge j zs.length with h | h
      · exact h
      · rw [List.getElem?_eq_none (by simpa using h)] at hu; cases hu
    rw [addr_add, Below.cell ((Below.refl w.heap.size w).alloc (Nat.le_refl _) _) (p := ⟨b, off + j, none⟩) hbw, HC.out j (by omega), ← hu, List.getElem?_map, List.getElem?_eq_getElem hj, List.getD_eq_getElem?_getD, List.getElem?_eq_getElem hj]
    rfl
  obtain ⟨r, hrdef⟩ : ∃ r, r = atv ys 0 n := ⟨_, rfl⟩
  obtain ⟨k, hkdef⟩ : ∃ k, k = atv ys 1 8 := ⟨_, rfl⟩
  have hrn : r < n := by rw [hrdef]; exact atv_lt _ _ _ h0
  have hk8 : k < 8 := by rw [hkdef]; exact atv_lt _ _ _ (by omega)
  have A0 : Hid (∀ x, Rd x a1 n1 ys → Calls Tryd.prog 7 #[.slice a1 n1 cap1, .int .i64 0, .int .i64 n] x fun e w' => e = .returned (.int .i64 r) ∧ ∃ q, w' = x.drewN q) := fun x hx => by
    rw [hrdef]; exact c_at a1 n1 cap1 ys 0 n x hx h1 (by omega) (by omega)
  have A1 : Hid (∀ x, Rd x a1 n1 ys → Calls Tryd.prog 7 #[.slice a1 n1 cap1, .int .i64 1, .int .i64 8] x fun e w' => e = .returned (.int .i64 k) ∧ ∃ q, w' = x.drewN q) := fun x hx => by
    rw [hkdef]; exact c_at a1 n1 cap1 ys 1 8 x hx h1 (by omega) (by omega)
  clear hrdef hkdef
  have hzr := HR.out.bd r
  obtain ⟨c, hcd⟩ := Int.eq_ofNat_of_zero_le hzr.1
  have hc256 : c < 256 := by omega
  have HCD : Hid ((c : Int) = zs.getD r 0) := hcd.symm
  clear hzr hcd
  obtain ⟨d, hd, hd256, hdc⟩ := flip_val c k hc256 hk8
  have HNE : Hid ((sumI (zs.set r (d : Int)) n != sumI zs n) = true) := sum_flip HZ.out hl hrn h2 hd256 (by rw [← HCD.out]; exact_mod_cast hdc)
  clear hdc
  go_enter Tryd.func3, Tryd.ntmps3
  go_wp2_with (first | (go_at_call 5; refine (c12 _ _ _ zs _ HR.out (by omega) HT.out).mono ?_; rintro e wx ⟨rfl, hw⟩; have hw := hw.symm; subst hw) | (go_at_call 6; refine (c10 _ _ _ zs _ HR.out (by omega)).mono ?_; rintro e wx ⟨rfl, hw⟩; have hw := hw.symm; subst hw) | (at_builtin; refine wpList_append_lies _ rfl (.tmp 36) (.tmp 37) 22 rfl w.heap.size 5 i0 (.int .u8 0) 1 1 Tryd.underlying22 hi hz0 hz1 hz2 rfl (by omega) (.slice (some ⟨w.heap.size, 0, none⟩) 0 0) 0 [] rfl hown0 ⟨b, off, none⟩ n cap (zs.map (Value.int .u8)) rfl (by simpa using hl) HN.out (ints_oneCell _ _) h0 (by unfold maxLen; omega) (by omega) (by simp) (w.heap.size + 1) (by simp) ?_; intro g cp w2 hown hgrow hat hlt))
  simp only [Nat.zero_add, List.nil_append] at hown
  have HB2 : Hid (Below w.heap.size w w2) := ((Below.refl w.heap.size w).alloc (Nat.le_refl _) _).grown hgrow (by simp) (fun k h => by cases h; exact Nat.le_refl _)
  have hrc : w2.cell? ⟨g, r, none⟩ = some (.int .u8 c) := by
    rw [hown.cellAt r (by omega), List.getElem?_map, List.getElem?_eq_getElem (by omega), HCD.out, List.getD_eq_getElem?_getD, List.getElem?_eq_getElem (by omega)]
    rfl
  have hrf := hown.frozenAt r
  have RD2 : Hid (Rd w2 a1 n1 ys) := HR1.out.below HB2.out
  have HO : Hid (_) := hown
  have HG : Hid (w.heap.size ≤ g) := by
    rcases hat with h | h
    · cases h; exact Nat.le_refl _
    · show w.heap.size ≤ g; omega
  clear hgrow hat hown hown0 HN hlt hbw hl
  have g1 : (0 : Int) ≤ (r : Int) := by omega
  have g2 : (r : Int) < (n : Int) := by omega
  go_wp2_with fail
  all_goals
    have g3 : (0 : Int) ≤ (k : Int) := by omega
    have g4 : (k : Int) < 8 := by omega
    go_region_with
      (first | (go_at_call_of 7 (Value.int IntKind.i64 (n : Int)); refine (A0.out _ ?_).mono ?_; (exact RD2.out); rintro e wy ⟨rfl, q, rfl⟩) | (go_at_call_of 7 (Value.int IntKind.i64 (8 : Int)); refine (A1.out _ ?_).mono ?_; (exact RD2.out); rintro e wz ⟨rfl, q1, rfl⟩))
  all_goals
    have HO' : (w2.drewN (1 + q + q1)).ownsRow w.heap.size 5 1 (.slice (some ⟨g, 0, none⟩) n cp) n (zs.map (Value.int .u8)) := HO.out
    have hst := (HO'.stored r (.int .u8 (d : Int))).1
    rw [← List.map_set] at hst
    have HR3 : Hid (Rd _ (some ⟨g, 0, none⟩) n (zs.set r (d : Int))) := Rd.own hst (bytes_set HZ.out hd256)
    have HB3 : Hid (Below w.heap.size w ((w2.drewN (1 + q + q1)).setCell ⟨g, r, none⟩ (.int .u8 (d : Int)))) := (below_drewN HB2.out _).setCell HG.out _
    clear hst HO'
    go_wp2_with fail
    refine (c12 _ _ _ _ _ HR3.out (by omega) (HT.out.below HB3.out)).mono ?_
    rintro e wx ⟨rfl, hw⟩
    have hw := hw.symm
    subst hw
    go_wp2
    go_ret
    exact ⟨ret_b HNE.out, HB3.out⟩
theorem wf_u8 {n : Int} (h : (Lit.int .u8 n).wf = true) : 0 ≤ n ∧ n < 256 := by
  have := bounds_u8 h
  omega
theorem rd_of_row {w : World} {x : Addr} {len cap : Nat} {zs : List Int} (hl : len ≤ cap) (hz : zs.length = cap) (hcell : ∀ i, i < zs.length → w.cell? (x.add i) = some (.int .u8 (zs.getD i 0))) (hwz : ∀ n ∈ zs, (Lit.int .u8 n).wf = true) : Rd w (some x) len (zs.take len) := by
  refine ⟨by simp; omega, fun z h => wf_u8 (hwz z (List.mem_of_mem_take h)), fun h => ?_⟩
  obtain ⟨b, off, spot⟩ := x
  have hc := hcell 0 (by omega)
  have hspot : spot = none := by simpa [Addr.add] using World.cell?_spot hc
  subst hspot
  refine ⟨b, off, rfl, fun i hi => ?_⟩
  have := hcell i (by omega)
  rw [List.getD_eq_getElem?_getD, List.getElem?_take_of_lt hi, ← List.getD_eq_getElem?_getD]
  have ea : (⟨b, off, none⟩ : Addr).add i = ⟨b, off + i, none⟩ := by unfold Addr.add; split <;> simp_all
  rwa [ea] at this

theorem law3 (a : Option Addr) (n cap : Nat) (zs : List Int) (a1 : Option Addr) (n1 cap1 : Nat) (ys : List Int) (w : World) (hr : Rd w a n zs) (hr1 : Rd w a1 n1 ys) (hm : n ≤ maxLen) (hm1 : n1 ≤ maxLen) (ht : TabH w) :
    Calls Tryd.prog 3 #[.slice a n cap, .slice a1 n1 cap1] w fun e w' => e = .returned (.bool true) ∧ Below w.heap.size w w' := by
  by_cases hh : 1048576 < n ∨ 1048576 < n1 ∨ 65536 < n ∨ n = 0
  · exact law3_hi a n cap zs a1 n1 cap1 w hr hm hm1 ht hh
  · obtain ⟨b, off, rfl, _⟩ := hr.2.2 (by omega)
    exact law3_lo b off n cap zs a1 n1 cap1 ys w hr hr1 ht (by omega) (by omega) (by omega)
end Go.Proofs.YtahigniblgpoaaaDoor
