/-
  Branches: whether their keys say where kids part, all their keys, whether keys rise.
-/
import Derived.Test.YthnggpjgajkaeaaMb
import Derived.Deep.RegionHeld3
namespace Go.Proofs.Ythnggpjgajkaeaa
open Go Go.RowKit
attribute [local go_sem ↓] Go.wp_at_zero Go.wp_at_succ

def Fo.sgB : Fo → List ByteArray → Nat → Bool
  | .nil, _, _ => true
  | .node ks k r, us, i => (i == 0 || decide (us.getD (i - 1) zS = leastT ks k)) && k.sgB ks 0 && r.sgB us (i + 1)
theorem Fo.sgB_iff : ∀ (f : Fo) (us : List ByteArray) (i : Nat), f.sgB us i = true ↔ f.sg us i
  | .nil, _, _ => by simp [Fo.sgB, Fo.sg]
  | .node ks k r, us, i => by
    rw [Fo.sgB, Fo.sg, Bool.and_eq_true, Bool.and_eq_true, Fo.sgB_iff k, Fo.sgB_iff r, and_assoc]
    refine and_congr_left' ?_
    cases i with
    | zero => simp
    | succ i => simp
theorem Fo.sgB_app (f : Fo) : ∀ (g : Fo) (us : List ByteArray) (i : Nat), (f.app g).sgB us i = (f.sgB us i && g.sgB us (i + f.len)) := by
  intro g us i
  rw [Bool.eq_iff_iff, Bool.and_eq_true, Fo.sgB_iff, Fo.sgB_iff, Fo.sgB_iff, Fo.sg_app]
theorem sg_no {k f r l : Fo} {ks us : List ByteArray} (e : k = f.app (.node ks l r)) (h : ((f.len == 0 || decide (us.getD (f.len - 1) zS = leastT ks l)) && l.sgB ks 0) = false) : k.sgB us 0 = false := by
  rw [e, Fo.sgB_app, Fo.sgB, Nat.zero_add, h]; simp
theorem sg_step {f l : Fo} {ks us : List ByteArray} (h : f.sgB us 0 = true) (h2 : ((f.len == 0 || decide (us.getD (f.len - 1) zS = leastT ks l)) && l.sgB ks 0) = true) : (f.app (.node ks l .nil)).sgB us 0 = true := by
  rw [Fo.sgB_app, Fo.sgB, Nat.zero_add, h, h2]; rfl
set_option maxRecDepth 100000 in
set_option maxHeartbeats 8000000 in
theorem c_signed : ∀ (N : Nat), N ≤ 1000 → ∀ (k : Fo) (ks : List ByteArray) (A : Nat → Prop) (p : Nat) (w : World), k.sz < N → RdB w A p ks k → k.wf → ks.length ≤ 4 → (k.len = 0 ∨ k.len = ks.length + 1) → Calls Try.prog 74 #[.pointer (some ⟨p, 0, none⟩)] w fun e w' => e = .returned (.bool (k.sgB ks 0)) ∧ Below w.heap.size w w' := by
  intro N
  induction N with
  | zero => intro _ k ks A p w h; exact absurd h (by omega)
  | succ N ih =>
    intro hNN k ks A p w hN hB hwf hl4 hlk
    have HB : Hid (RdB w A p ks k) := hB
    obtain ⟨hlt, hA, ka, kc, ia, ic, pl, us, c0, c1, c2, s0, sn, s1, hF⟩ := hB
    have HF : Hid (RdF w A k us) := hF
    have HW : Hid k.wf := hwf
    have HS : Hid (RdS w A ia k.len (us.map ptr)) := s1
    have HQ : Hid (RdS w A ka ks.length (ks.map Value.string)) := s0
    have IH : Hid (∀ (l : Fo) (ks' : List ByteArray) (q : Nat) (W : World), l.sz < N → RdB W A q ks' l → l.wf → ks'.length ≤ 4 → (l.len = 0 ∨ l.len = ks'.length + 1) → Calls Try.prog 74 #[.pointer (some ⟨q, 0, none⟩)] W fun e w' => e = .returned (.bool (l.sgB ks' 0)) ∧ Below W.heap.size W w') := fun l ks' q W => ih (by omega) l ks' A q W
    have HN : Hid (k.sz < N + 1) := hN
    obtain ⟨K, hK⟩ : ∃ K, k.len = K := ⟨_, rfl⟩
    obtain ⟨M, hM⟩ : ∃ M, ks.length = M := ⟨_, rfl⟩
    have HK : Hid (k.len = K) := hK
    have HM : Hid (ks.length = M) := hM
    rw [hK, hM] at hlk
    rw [hM] at hl4 c0
    rw [hK] at c1
    clear hF hwf s1 ih hN hK hM s0 sn c2 hlt hA HB
    go_enter Try.func74, Try.ntmps74
    go_wp2
    go_loopw [10] (fun i wr => ∃ (n : Nat) (f g : Fo), n ≤ K ∧ i = .int .i64 n ∧ Hid (k = f.app g) ∧ Hid (f.len = n) ∧ Hid (f.sgB ks 0 = true) ∧ Hid (Below w.heap.size w wr)) (fun i _ => K - (intOf i).toNat)
    case atStart => exact ⟨0, .nil, k, by omega, rfl, rfl, rfl, rfl, Below.refl _ _⟩
    case round =>
      obtain ⟨n, f, g, hn, rfl, HE, HL, HV, BW⟩ := hrel
      by_cases hlt : n < K
      · obtain ⟨ks', l, r, hg, hsz⟩ := Fo.split_at HE.out HL.out (by rw [HK.out]; exact hlt)
        have hE := HE.out
        rw [hg] at hE
        obtain ⟨q, hq, hBq⟩ := RdF.at (hE ▸ HF.out)
        obtain ⟨b, off, rfl, hbl, hAb, hc⟩ := HS.out.2 (by rw [HK.out]; omega)
        have d0 : wr.cell? ⟨b, off + n, none⟩ = some (.pointer (some ⟨q, 0, none⟩)) := by rw [BW.out.cell (p := ⟨b, off + n, none⟩) hbl, hc n (by rw [HK.out]; exact hlt)]; exact map_ptr (by rw [← HL.out]; exact hq)
        have hw2 : (Fo.node ks' l r).wf := ((Fo.wf_app f _).1 (hE ▸ HW.out)).2
        have HBq : Hid (RdB wr A q ks' l) := hBq.below BW.out
        have C93 : Hid (∀ o : Out wr, Calls Try.prog 93 #[.pointer (some ⟨q, 0, none⟩)] o.y fun e y => e = .returned (.string (leastT ks' l)) ∧ y = o.y) := fun o => c_least (l.sz + 1) l ks' A q o.y (by omega) (HBq.out.below o.p) hw2.1 hw2.2.2.2.1 (len_le4 hw2.2.1 hw2.2.2.1)
        have C74 : Hid (∀ o : Out wr, Calls Try.prog 74 #[.pointer (some ⟨q, 0, none⟩)] o.y fun e y => e = .returned (.bool (l.sgB ks' 0)) ∧ Below o.y.heap.size o.y y) := fun o => IH.out l ks' q o.y (by have := HN.out; omega) (HBq.out.below o.p) hw2.2.2.2.1 hw2.2.1 hw2.2.2.1
        have HE' : Hid (k = f.app (.node ks' l r)) := hE
        obtain ⟨LE, hLE⟩ : ∃ s, leastT ks' l = s := ⟨_, rfl⟩
        obtain ⟨SG, hSG⟩ : ∃ s, l.sgB ks' 0 = s := ⟨_, rfl⟩
        have HLE : Hid (leastT ks' l = LE) := hLE
        have HSG : Hid (l.sgB ks' 0 = SG) := hSG
        rw [hLE] at C93
        rw [hSG] at C74
        have e0 : ∀ o : Out wr, o.y.cell? ⟨p, 0, none⟩ = some (.slice ka M kc) := fun o => q_cell (far6 BW.out c0) o
        clear hc hq hBq hw2 hE hg hsz IH HW HF HS HE HBq hLE hSG
        by_cases h0 : 0 < n
        · obtain ⟨kb, ko, hka, hkl, _, hkc⟩ := HQ.out.2 (by rw [HM.out]; omega)
          subst hka
          have f0 : ∀ o : Out wr, o.y.cell? ⟨kb, ko + (n - 1), none⟩ = some (.string (ks.getD (n - 1) zS)) := fun o => by
            refine q_cell ?_ o
            rw [BW.out.cell (p := ⟨kb, ko + (n - 1), none⟩) hkl, hkc (n - 1) (by rw [HM.out]; omega)]
            exact map_get _ _ _ _ (by rw [HM.out]; omega)
          obtain ⟨KE, hKE⟩ : ∃ s, ks.getD (n - 1) zS = s := ⟨_, rfl⟩
          have HKE : Hid (ks.getD (n - 1) zS = KE) := hKE
          rw [hKE] at f0
          clear hKE hkc HQ
          have g1 : decide ((0 : Int) < (n : Int)) = true := by simp; omega
          have w1 : IntKind.i64.wrap ((n : Int) - 1) = (n : Int) - 1 := by rw [IntKind.wrap_i64]; omega
          have w2 : ((n : Int) - 1).toNat = n - 1 := by omega
          have w3 : (0 : Int) ≤ (n : Int) - 1 := by omega
          have w4 : (n : Int) - 1 < (M : Int) := by omega
          by_cases h1 : KE = LE
          · have h1' : (KE.toList == LE.toList) = true := by simp [h1]
            have H1 : Hid (KE = LE) := h1
            clear h1
            go_wp2_with fail
            haveI nonE := Out.some wr
            refine q_begin (by kernel_rfl) (by kernel_rfl) ?_
            repeat (go_big_quiet_step (first | exact q_same (C93.out _) | exact q_call (C74.out _)))
            refine wpQuiet_nil ?_
            rintro w3 ⟨⟨y', hb3⟩, hy⟩
            have hy' : w3 = y' := hy
            clear hy
            subst hy'
            have B3 : Hid (Below w.heap.size w w3) := BW.out.trans (hb3.mono BW.out.size)
            clear hb3 C93 C74 e0 f0
            cases SG
            · go_wp2
              go_ret
              exact ⟨ret_bool (sg_no HE'.out (by rw [HSG.out]; simp)).symm, B3.out⟩
            · go_wp2
              go_roundw
              case rel => exact ⟨n + 1, f.app (.node ks' l .nil), r, by omega, by go_num, by unfold Hid; rw [← Fo.step_app]; exact HE'.out, by unfold Hid; rw [Fo.len_step, HL.out], sg_step HV.out (by rw [HL.out, HKE.out, HLE.out, HSG.out, H1.out]; simp), B3.out⟩
              case measure => simp [intOf]; omega
          · have h1' : (KE.toList == LE.toList) = false := by rw [beq_eq_false_iff_ne]; exact fun e => h1 (toList_inj e)
            have H1 : Hid (KE ≠ LE) := h1
            clear h1
            go_wp2_with fail
            haveI nonE := Out.some wr
            refine q_begin (by kernel_rfl) (by kernel_rfl) ?_
            repeat (go_big_quiet_step (first | exact q_same (C93.out _) | exact q_call (C74.out _)))
            refine wpQuiet_nil ?_
            rintro w3 ⟨⟨y', hb3⟩, hy⟩
            have hy' : w3 = y' := hy
            clear hy
            subst hy'
            have B3 : Hid (Below w.heap.size w w3) := BW.out.trans (hb3.mono BW.out.size)
            have H0 : Hid (0 < n) := h0
            clear hb3 C93 C74 e0 f0
            go_wp2
            go_ret
            exact ⟨ret_bool (sg_no HE'.out (by rw [HL.out, HKE.out, HLE.out, show (n == 0) = false from beq_eq_false_iff_ne.2 (by have := H0.out; omega), decide_eq_false H1.out]; rfl)).symm, B3.out⟩
        · obtain rfl : n = 0 := by omega
          rw [Nat.add_zero] at d0
          go_wp2_with fail
          haveI nonE := Out.some wr
          refine q_begin (by kernel_rfl) (by kernel_rfl) ?_
          repeat (go_big_quiet_step (first | exact q_same (C93.out _) | exact q_call (C74.out _)))
          refine wpQuiet_nil ?_
          rintro w3 ⟨⟨y', hb3⟩, hy⟩
          have hy' : w3 = y' := hy
          clear hy
          subst hy'
          have B3 : Hid (Below w.heap.size w w3) := BW.out.trans (hb3.mono BW.out.size)
          clear hb3 C93 C74 e0
          cases SG
          · go_wp2
            go_ret
            exact ⟨ret_bool (sg_no HE'.out (by rw [HSG.out]; simp)).symm, B3.out⟩
          · go_wp2
            go_roundw
            case rel => exact ⟨1, f.app (.node ks' l .nil), r, by omega, by go_num, by unfold Hid; rw [← Fo.step_app]; exact HE'.out, by unfold Hid; rw [Fo.len_step, HL.out], sg_step HV.out (by rw [HL.out, HSG.out]; rfl), B3.out⟩
            case measure => simp [intOf]; omega
      · have e : n = K := by omega
        subst e
        have EK : Hid (k = f) := Fo.split_end HE.out (by rw [HL.out, HK.out])
        go_wp2
        go_ret
        exact ⟨ret_bool (by rw [EK.out]; exact HV.out.symm), BW.out⟩

end Go.Proofs.Ythnggpjgajkaeaa
