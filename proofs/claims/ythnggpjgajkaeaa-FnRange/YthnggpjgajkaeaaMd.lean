/-
  All keys of a branch; keys that rise; nodes that are ones.
-/
import Derived.Test.YthnggpjgajkaeaaMc
namespace Go.Proofs.Ythnggpjgajkaeaa
open Go Go.RowKit
attribute [local go_sem ↓] Go.wp_at_zero Go.wp_at_succ

set_option maxRecDepth 100000 in
set_option maxHeartbeats 2000000 in
theorem c_copyS (a : Option Addr) (n c : Nat) (ss : List ByteArray) (w : World) (hr : RdV w a n (ss.map Value.string)) (hn : n ≤ 1048576) (hc : a = none → c = 0) :
    Calls Try.prog 67 #[.slice a n c] w fun e w' => (∃ a' c', e = .returned (.slice a' n c') ∧ w'.ownsRow w.heap.size 9 1 (.slice a' n c') n (ss.map Value.string)) ∧ Below w.heap.size w w' := by
  obtain ⟨i0, hi, hz0, hz1, hz2⟩ := info_parts infoS
  go_enter Try.func67, Try.ntmps67
  go_wp2_with (at_builtin; refine app_any _ rfl (.const (.slice none 0 0)) (.tmp 3) 23 rfl w.heap.size 9 i0 (.string ⟨#[]⟩) 1 16 Try.underlying23 hi hz0 hz1 hz2 rfl (by omega) (.slice none 0 0) 0 [] rfl (World.ownsRow_nil w _ _ _) a n c (ss.map Value.string) rfl (rdV_none hr hc) (by rw [hr.1]; omega) (fun ad e => src1 (e ▸ hr)) (map_one _ (fun _ => rfl) _) (by unfold maxLen; omega) (by omega) (Nat.le_refl _) ?_; intro a2 c2 w5 ho5 hg5 hx5)
  go_ret
  rw [Nat.zero_add, List.nil_append] at ho5
  exact ⟨⟨a2, c2, rfl, ho5⟩, (Below.refl _ _).grown hg5 (Nat.le_refl _) (fun k h => by cases h)⟩
theorem Fo.all_len : ∀ f : Fo, f.wf → f.all.length ≤ 4 * f.sz
  | .nil, _ => Nat.le_refl _
  | .node ks k r, h => by
    rw [Fo.all_node, List.length_append, Fo.sz, allT]
    have h1 := Fo.all_len k h.2.2.2.1
    have h2 := Fo.all_len r h.2.2.2.2
    have h3 := h.2.1
    split <;> omega
theorem allT_len {ks : List ByteArray} {k : Fo} (h : k.wf) (h4 : ks.length ≤ 4) : (allT ks k).length ≤ 4 * k.sz + 4 := by
  unfold allT
  have := Fo.all_len k h
  split <;> omega
theorem allT_kids {ks : List ByteArray} {k : Fo} (h : k.isNil = false) : allT ks k = k.all := by unfold allT; rw [h]; rfl
theorem allT_leaf {ks : List ByteArray} {k : Fo} (h : k.isNil = true) : allT ks k = ks := by unfold allT; rw [h]; rfl
set_option maxRecDepth 100000 in
set_option maxHeartbeats 8000000 in
theorem c_allKeys : ∀ (N : Nat), N ≤ 1000 → ∀ (k : Fo) (ks : List ByteArray) (A : Nat → Prop) (p : Nat) (w : World), k.sz < N → RdB w A p ks k → k.wf → ks.length ≤ 4 → k.len ≤ 5 → Calls Try.prog 41 #[.pointer (some ⟨p, 0, none⟩)] w fun e w' => (∃ a' c', e = .returned (.slice a' (allT ks k).length c') ∧ w'.ownsRow w.heap.size 9 1 (.slice a' (allT ks k).length c') (allT ks k).length ((allT ks k).map Value.string)) ∧ Below w.heap.size w w' := by
  intro N
  induction N with
  | zero => intro _ k ks A p w h; exact absurd h (by omega)
  | succ N ih =>
    intro hNN k ks A p w hN hB hwf hl4 hl5
    obtain ⟨hlt, hA, ka, kc, ia, ic, pl, us, c0, c1, c2, s0, sn, s1, hF⟩ := hB
    have C1 := c_leafB p ia k.len ic w c1 hl5
    rw [isNil_dec] at C1
    cases hk : k.isNil
    · rw [hk] at C1
      have HF : Hid (RdF w A k us) := hF
      have HW : Hid k.wf := hwf
      have HS : Hid (RdS w A ia k.len (us.map ptr)) := s1
      have IH : Hid (∀ (l : Fo) (ks' : List ByteArray) (q : Nat) (W : World), l.sz < N → RdB W A q ks' l → l.wf → ks'.length ≤ 4 → l.len ≤ 5 → Calls Try.prog 41 #[.pointer (some ⟨q, 0, none⟩)] W fun e w' => (∃ a' c', e = .returned (.slice a' (allT ks' l).length c') ∧ w'.ownsRow W.heap.size 9 1 (.slice a' (allT ks' l).length c') (allT ks' l).length ((allT ks' l).map Value.string)) ∧ Below W.heap.size W w') := fun l ks' q W => ih (by omega) l ks' A q W
      have HN : Hid (k.sz < N + 1) := hN
      obtain ⟨K, hK⟩ : ∃ K, k.len = K := ⟨_, rfl⟩
      have HK : Hid (k.len = K) := hK
      rw [hK] at c1 hl5
      have hal : (allT ks k).length = k.all.length := by rw [allT_kids hk]
      have HAL : Hid (allT ks k = k.all) := allT_kids hk
      clear hF hwf s1 ih hN hK s0 sn c0 c2 hlt hA hal
      go_enter Try.func41, Try.ntmps41
      go_wp2_with fail
      refine C1.mono ?_
      rintro e w' ⟨rfl, hq⟩; have hq' := hq.symm; subst hq'; clear hq C1
      go_wp2
      go_loopw [3, 18] (fun o i wr => ∃ (n : Nat) (f g : Fo) (a' : Option Addr) (c' m : Nat), n ≤ K ∧ i = .int .i64 n ∧ o = .slice a' m c' ∧ Hid (f.all.length = m) ∧ Hid (k = f.app g) ∧ Hid (f.len = n) ∧ Hid (wr.ownsRow w.heap.size 9 1 (.slice a' m c') m (f.all.map Value.string)) ∧ Hid (Below w.heap.size w wr)) (fun _ i _ => K - (intOf i).toNat)
      case atStart => exact ⟨0, .nil, k, none, 0, 0, by omega, rfl, rfl, rfl, rfl, rfl, World.ownsRow_nil w _ _ _, Below.refl _ _⟩
      case round =>
        obtain ⟨n, f, g, a1, cc1, m1, hn, rfl, rfl, HM, HE, HL, OW, BW⟩ := hrel
        by_cases hlt : n < K
        · obtain ⟨ks', l, r, hg, hsz⟩ := Fo.split_at HE.out HL.out (by rw [HK.out]; exact hlt)
          have hE := HE.out
          rw [hg] at hE
          obtain ⟨q, hq, hBq⟩ := RdF.at (hE ▸ HF.out)
          obtain ⟨b, off, rfl, hbl, hAb, hc⟩ := HS.out.2 (by rw [HK.out]; omega)
          have d0 : wr.cell? ⟨b, off + n, none⟩ = some (.pointer (some ⟨q, 0, none⟩)) := by rw [BW.out.cell (p := ⟨b, off + n, none⟩) hbl, hc n (by rw [HK.out]; exact hlt)]; exact map_ptr (by rw [← HL.out]; exact hq)
          have hw2 : (Fo.node ks' l r).wf := ((Fo.wf_app f _).1 (hE ▸ HW.out)).2
          have C := IH.out l ks' q wr (by have := HN.out; omega) (hBq.below BW.out) hw2.2.2.2.1 hw2.2.1 (len_le4 hw2.2.1 hw2.2.2.1)
          have HE' : Hid (k = f.app (.node ks' l r)) := hE
          have ha1 := Fo.all_len f ((Fo.wf_app f _).1 (hE ▸ HW.out)).1
          have ha2 := allT_len (ks := ks') hw2.2.2.2.1 hw2.2.1
          have ha3 : f.sz ≤ k.sz := by rw [hE, Fo.sz_app]; omega
          have ha4 := HN.out
          obtain ⟨m2, hm2⟩ : ∃ m, (allT ks' l).length = m := ⟨_, rfl⟩
          have HM2 : Hid ((allT ks' l).length = m2) := hm2
          rw [hm2] at C ha2
          rw [HM.out] at ha1
          have hmm : m1 + m2 ≤ 10000 := by omega
          clear hc hq hBq hw2 hE hg hsz IH HW HF HS HE ha1 ha2 ha3 ha4 hm2
          obtain ⟨i0, hi, hz0, hz1, hz2⟩ := info_parts infoS
          have sz1 := BW.out.size
          go_wp2_with fail
          refine C.mono ?_
          rintro e w2 ⟨⟨a2, c2, rfl, o2⟩, hb2⟩
          have O1 : Hid (w2.ownsRow w.heap.size 9 1 (.slice a1 m1 cc1) m1 (f.all.map Value.string)) := own_below OW.out hb2
          have B2 : Hid (Below w.heap.size w w2) := BW.out.trans (hb2.mono BW.out.size)
          have R2 : Hid (RdV w2 a2 m2 ((allT ks' l).map Value.string)) := RdV.own o2
          have N2 : Hid (a2 = none → c2 = 0) := own_src o2
          have sz2 := B2.out.size
          clear o2 hb2 C OW BW d0
          go_wp2_with (at_builtin; refine app_any _ rfl (.tmp 22) (.tmp 24) 23 rfl w.heap.size 9 i0 (.string ⟨#[]⟩) 1 16 Try.underlying23 hi hz0 hz1 hz2 rfl (by omega) (.slice a1 m1 cc1) m1 (f.all.map Value.string) rfl O1.out a2 m2 c2 ((allT ks' l).map Value.string) rfl (rdV_none R2.out N2.out) (by rw [R2.out.1]; omega) (fun ad e => src1 (e ▸ R2.out)) (map_one _ (fun _ => rfl) _) (by unfold maxLen; omega) (by omega) (by omega) ?_; intro a5 c5 w5 ho5 hg5 hx5)
          have O5 : Hid (w5.ownsRow w.heap.size 9 1 (.slice a5 (m1 + m2) c5) (m1 + m2) ((f.app (.node ks' l .nil)).all.map Value.string)) := by
            unfold Hid
            rw [Fo.all_app, Fo.all_node, Fo.all, List.append_nil, List.map_append]
            exact ho5
          have B5 : Hid (Below w.heap.size w w5) := B2.out.grown hg5 B2.out.size (fun g hg => by
            rcases own_form O1.out with ⟨h1, _⟩ | ⟨g', cp, h1, h2, _⟩
            · rw [h1] at hg; cases hg
            · rw [h1] at hg; cases hg; exact h2)
          clear ho5 hg5 hx5 O1 B2 R2 N2
          go_roundw
          case rel => exact ⟨n + 1, f.app (.node ks' l .nil), r, a5, c5, m1 + m2, by omega, by go_num, rfl, by unfold Hid; rw [Fo.all_app, Fo.all_node, Fo.all, List.append_nil, List.length_append, HM.out, HM2.out], by unfold Hid; rw [← Fo.step_app]; exact HE'.out, by unfold Hid; rw [Fo.len_step, HL.out], O5.out, B5.out⟩
          case measure => simp [intOf]; omega
        · have e : n = K := by omega
          subst e
          have EK : Hid (k = f) := Fo.split_end HE.out (by rw [HL.out, HK.out])
          go_wp2
          go_ret
          refine ⟨⟨a1, cc1, ?_, ?_⟩, BW.out⟩
          · rw [HAL.out, EK.out, HM.out]; rfl
          · rw [HAL.out, EK.out, HM.out]; exact OW.out
    · rw [hk] at C1
      have C2 := c_copyS ka ks.length kc ks w s0.rd (by omega) sn
      have HAL : Hid (allT ks k = ks) := allT_leaf hk
      obtain ⟨M, hM⟩ : ∃ M, ks.length = M := ⟨_, rfl⟩
      have HM : Hid (ks.length = M) := hM
      rw [hM] at c0 C2
      clear hF hwf s0 sn s1 hlt hA hk hl5 hN ih hM hl4
      go_enter Try.func41, Try.ntmps41
      go_wp2_with fail
      refine C1.mono ?_
      rintro e w' ⟨rfl, hq⟩; have hq' := hq.symm; subst hq'; clear hq C1
      go_wp2_with fail
      refine C2.mono ?_
      rintro e w' ⟨⟨a', c', rfl, o'⟩, hb⟩
      have O' : Hid (w'.ownsRow w.heap.size 9 1 (.slice a' M c') M (ks.map Value.string)) := o'
      have B' : Hid (Below w.heap.size w w') := hb
      clear o' hb C2
      go_wp2
      go_ret
      refine ⟨⟨a', c', ?_, ?_⟩, B'.out⟩
      · rw [HAL.out, HM.out]; rfl
      · rw [HAL.out, HM.out]; exact O'.out

end Go.Proofs.Ythnggpjgajkaeaa
