/-
  Keys within a range: of a list, of a branch, of a tree.
-/
import Derived.Test.YthnggpjgajkaeaaNc
import Derived.Laws.EntriesVeiled
import Derived.Deep.RegionHeld3
namespace Go.Proofs.Ythnggpjgajkaeaa
open Go Go.RowKit
attribute [local go_sem ↓] Go.wp_at_zero Go.wp_at_succ

def rgB (fr to key : ByteArray) : Bool := !(Op.bytesLess key.toList fr.toList) && Op.bytesLess key.toList to.toList
def rgL (fr to : ByteArray) (K : List ByteArray) : List ByteArray := K.filter (rgB fr to)
theorem rgL_app (fr to : ByteArray) (A B : List ByteArray) : rgL fr to (A ++ B) = rgL fr to A ++ rgL fr to B := List.filter_append ..
theorem rgL_none {fr to : ByteArray} {K : List ByteArray} (h : ∀ x ∈ K, rgB fr to x = false) : rgL fr to K = [] := by
  unfold rgL; rw [List.filter_eq_nil_iff]; intro x hx; rw [h x hx]; simp
theorem rgB_hi {fr to x k : ByteArray} (h1 : x = k ∨ lt' k x) (h2 : Op.bytesLess k.toList to.toList = false) : rgB fr to x = false := by
  unfold rgB
  have : Op.bytesLess x.toList to.toList = false := by
    cases hx : Op.bytesLess x.toList to.toList
    · rfl
    · exfalso
      have : lt' k to := by
        rcases h1 with rfl | h1
        · exact hx
        · exact lt'_trans h1 hx
      unfold lt' at this; rw [h2] at this; cases this
  rw [this, Bool.and_false]
theorem rgB_lo {fr to x k : ByteArray} (h1 : lt' x k) (h2 : Op.bytesLess fr.toList k.toList = false) : rgB fr to x = false := by
  unfold rgB
  have : Op.bytesLess x.toList fr.toList = true := by
    cases hx : Op.bytesLess x.toList fr.toList
    · exfalso
      have : lt' fr k := by
        by_cases e : fr = x
        · rw [e]; exact h1
        · exact lt'_trans (lt'_tri (a := x) (b := fr) (by unfold lt'; rw [hx]; simp) (fun q => e q.symm)) h1
      unfold lt' at this; rw [h2] at this; cases this
    · rfl
  rw [this]; rfl
set_option maxRecDepth 100000 in
set_option maxHeartbeats 8000000 in
theorem c_inRange (fr to key : ByteArray) (fb tb : Nat) (w : World) (hf : w.cell? ⟨fb, 0, none⟩ = some (.string fr)) (ht : w.cell? ⟨tb, 0, none⟩ = some (.string to)) :
    Calls Try.prog 76 #[.string key, .pointer (some ⟨fb, 0, none⟩), .pointer (some ⟨tb, 0, none⟩)] w fun e w' => e = .returned (.bool (rgB fr to key)) ∧ w' = w := by
  have ho := bl_or fr.toList key.toList
  cases h : Op.bytesLess key.toList fr.toList
  · rw [h] at ho
    have E : Hid (rgB fr to key = Op.bytesLess key.toList to.toList) := by unfold Hid rgB; rw [h]; rfl
    have ho' : (Op.bytesLess fr.toList key.toList || fr.toList == key.toList) = true := ho
    clear ho h
    go_enter Try.func76, Try.ntmps76
    go_wp2
    go_ret
    exact ⟨ret_bool E.out.symm, rfl⟩
  · rw [h] at ho
    have E : Hid (rgB fr to key = false) := by unfold Hid rgB; rw [h]; rfl
    have ho' : (Op.bytesLess fr.toList key.toList || fr.toList == key.toList) = false := ho
    clear ho h
    go_enter Try.func76, Try.ntmps76
    go_wp2
    go_ret
    exact ⟨ret_bool E.out.symm, rfl⟩
theorem rg_take {fr to : ByteArray} {K : List ByteArray} {k : Nat} (h : k < K.length) : rgL fr to (K.take (k + 1)) = rgL fr to (K.take k) ++ (if rgB fr to (K.getD k zS) then [K.getD k zS] else []) := by
  rw [List.take_add_one, List.getElem?_eq_getElem h, rgL_app, getD_get h]
  congr 1
  unfold rgL
  simp only [Option.toList, List.filter_cons, List.filter_nil]
theorem rg_len (fr to : ByteArray) (K : List ByteArray) : (rgL fr to K).length ≤ K.length := List.length_filter_le ..
set_option maxRecDepth 100000 in
set_option maxHeartbeats 8000000 in
theorem c_those (fr to : ByteArray) (fb tb : Nat) (a : Option Addr) (n c : Nat) (K : List ByteArray) (w : World) (hr : RdV w a n (K.map Value.string)) (hn : n ≤ 4096) (hf : w.cell? ⟨fb, 0, none⟩ = some (.string fr)) (ht : w.cell? ⟨tb, 0, none⟩ = some (.string to)) :
    Calls Try.prog 75 #[.slice a n c, .func (Fn.func 76) #[] #[.pointer (some ⟨fb, 0, none⟩), .pointer (some ⟨tb, 0, none⟩)]] w fun e w' => (∃ a' c', e = .returned (.slice a' (rgL fr to K).length c') ∧ w'.ownsRow w.heap.size 9 1 (.slice a' (rgL fr to K).length c') (rgL fr to K).length ((rgL fr to K).map Value.string)) ∧ Below w.heap.size w w' := by
  have HR : Hid (RdV w a n (K.map Value.string)) := hr
  have HKN : Hid (K.length = n) := by unfold Hid; have := hr.1; simpa using this
  have HCF : Hid (∀ W x, Below w.heap.size w W → Calls Try.prog 76 #[.string x, .pointer (some ⟨fb, 0, none⟩), .pointer (some ⟨tb, 0, none⟩)] W fun e w' => e = .returned (.bool (rgB fr to x)) ∧ w' = W) := fun W x hW => c_inRange fr to x fb tb W (far6 hW hf) (far6 hW ht)
  clear hr hf ht
  obtain ⟨i0, hi, hz0, hz1, hz2⟩ := info_parts infoS
  go_enter Try.func75, Try.ntmps75
  go_wp2
  go_loopw [5, 10] (fun o i wr => ∃ (k : Nat) (a' : Option Addr) (c' m : Nat), k ≤ n ∧ i = .int .i64 k ∧ o = .slice a' m c' ∧ Hid ((rgL fr to (K.take k)).length = m) ∧ Hid (wr.ownsRow w.heap.size 9 1 (.slice a' m c') m ((rgL fr to (K.take k)).map Value.string)) ∧ Hid (Below w.heap.size w wr)) (fun _ i _ => n - (intOf i).toNat)
  case atStart => exact ⟨0, none, 0, 0, by omega, rfl, rfl, rfl, World.ownsRow_nil w _ _ _, Below.refl _ _⟩
  case round =>
    obtain ⟨k, a1, c1, m1, hk, rfl, rfl, HM, OW, BW⟩ := hrel
    by_cases hlt : k < n
    · obtain ⟨b, off, rfl, hbl, hc⟩ := HR.out.2 (by omega)
      obtain ⟨y, hy⟩ : ∃ y, K.getD k zS = y := ⟨_, rfl⟩
      have e0 : wr.cell? ⟨b, off + k, none⟩ = some (.string y) := by rw [BW.out.cell (p := ⟨b, off + k, none⟩) hbl, hc k hlt, ← hy]; exact map_get _ _ _ _ (by rw [HKN.out]; exact hlt)
      have HT : Hid (rgL fr to (K.take (k + 1)) = rgL fr to (K.take k) ++ (if rgB fr to y then [y] else [])) := by unfold Hid; rw [rg_take (by rw [HKN.out]; exact hlt), hy]
      have CF := HCF.out wr y BW.out
      have hm1 : m1 ≤ n := by have h1 := rg_len fr to (K.take k); rw [HM.out, List.length_take, HKN.out] at h1; omega
      clear hc hy
      cases hb : rgB fr to y
      · rw [hb] at CF
        have HT' : Hid (rgL fr to (K.take (k + 1)) = rgL fr to (K.take k)) := by unfold Hid; rw [HT.out, hb]; simp
        clear hb
        go_wp2_with fail
        refine CF.mono ?_
        rintro e w' ⟨rfl, hq⟩; have hq' := hq.symm; subst hq'; clear hq CF
        go_wp2
        go_roundw
        case rel => exact ⟨k + 1, a1, c1, m1, by omega, by go_num, rfl, by unfold Hid; rw [HT'.out]; exact HM.out, by unfold Hid; rw [HT'.out]; exact OW.out, BW.out⟩
        case measure => simp [intOf]; omega
      · rw [hb] at CF
        have HT' : Hid (rgL fr to (K.take (k + 1)) = rgL fr to (K.take k) ++ [y]) := by unfold Hid; rw [HT.out, hb]; simp
        clear hb
        go_wp2_with fail
        refine CF.mono ?_
        rintro e w' ⟨rfl, hq⟩; have hq' := hq.symm; subst hq'; clear hq CF
        obtain ⟨V, hV⟩ : ∃ V, wr.alloc (.cells #[.string y] 9) = V := ⟨_, rfl⟩
        have bV : Below wr.heap.size wr V := by rw [← hV]; exact (Below.refl _ _).alloc (Nat.le_refl _) _
        have OV : Hid (V.ownsRow w.heap.size 9 1 (.slice a1 m1 c1) m1 ((rgL fr to (K.take k)).map Value.string)) := own_below OW.out bV
        have BV : Hid (Below w.heap.size w V) := BW.out.trans (bV.mono BW.out.size)
        have CV : Hid (V.cell? ⟨wr.heap.size, 0, none⟩ = some (.string y)) := by unfold Hid; rw [← hV]; exact (Box.new _ _ _).cell 0
        have sV := BV.out.size
        clear bV
        go_wp2_with (at_builtin; refine app_any _ rfl (.tmp 17) (.tmp 19) 23 rfl w.heap.size 9 i0 (.string ⟨#[]⟩) 1 16 Try.underlying23 hi hz0 hz1 hz2 rfl (by omega) (.slice a1 m1 c1) m1 ((rgL fr to (K.take k)).map Value.string) rfl OV.out (some ⟨wr.heap.size, 0, none⟩) 1 1 [.string y] rfl (fun h => by cases h) rfl (fun ad e => by cases e; intro k u hu; cases k with | zero => (cases hu; exact CV.out) | succ k => simp at hu) (by intro u hu; simp at hu; subst hu; rfl) (by unfold maxLen; omega) (by omega) sV ?_; intro a5 c5 w5 ho5 hg5 hx5)
        have O5 : Hid (w5.ownsRow w.heap.size 9 1 (.slice a5 (m1 + 1) c5) (m1 + 1) ((rgL fr to (K.take (k + 1))).map Value.string)) := by unfold Hid; rw [HT'.out, List.map_append]; exact ho5
        have B5 : Hid (Below w.heap.size w w5) := BV.out.grown hg5 BV.out.size (fun g hg => by
          rcases own_form OV.out with ⟨h1, _⟩ | ⟨g', cp, h1, h2, _⟩
          · rw [h1] at hg; cases hg
          · rw [h1] at hg; cases hg; exact h2)
        clear ho5 hg5 hx5 OV BV CV hV
        go_roundw
        case rel => exact ⟨k + 1, a5, c5, m1 + 1, by omega, by go_num, rfl, by unfold Hid; rw [HT'.out, List.length_append, HM.out]; rfl, O5.out, B5.out⟩
        case measure => simp [intOf]; omega
    · have e : k = n := by omega
      subst e
      have E : Hid (rgL fr to (K.take k) = rgL fr to K) := by unfold Hid; rw [List.take_of_length_le (by rw [HKN.out]; omega)]
      go_wp2
      go_ret
      refine ⟨⟨a1, c1, ?_, ?_⟩, BW.out⟩
      · rw [← E.out, HM.out]; rfl
      · rw [← E.out, HM.out]; exact OW.out
set_option maxRecDepth 100000 in
set_option maxHeartbeats 40000000 in
theorem c_within (fr to : ByteArray) : ∀ (N : Nat), N ≤ 1000 → ∀ (k : Fo) (ks : List ByteArray) (A : Nat → Prop) (p : Nat) (w : World), k.sz < N → RdB w A p ks k → k.wf → ks.length ≤ 4 → (k.len = 0 ∨ k.len = ks.length + 1) → k.sg ks 0 → Rise (allT ks k) → Calls Try.prog 45 #[.pointer (some ⟨p, 0, none⟩), .string fr, .string to] w fun e w' => (∃ a' c', e = .returned (.slice a' (rgL fr to (allT ks k)).length c') ∧ w'.ownsRow w.heap.size 9 1 (.slice a' (rgL fr to (allT ks k)).length c') (rgL fr to (allT ks k)).length ((rgL fr to (allT ks k)).map Value.string)) ∧ Below w.heap.size w w' := by
  intro N
  induction N with
  | zero => intro _ k ks A p w h; exact absurd h (by omega)
  | succ N ih =>
    intro hNN k ks A p w hN hB hwf hl4 hlk hsg hri
    have HB : Hid (RdB w A p ks k) := hB
    obtain ⟨V0, hV0⟩ : ∃ V, w.alloc (.cells #[.string fr] 9) = V := ⟨_, rfl⟩
    obtain ⟨V, hV⟩ : ∃ V', V0.alloc (.cells #[.string to] 9) = V' := ⟨_, rfl⟩
    have b0 : Below w.heap.size w V0 := by rw [← hV0]; exact (Below.refl _ _).alloc (Nat.le_refl _) _
    have b1 : Below V0.heap.size V0 V := by rw [← hV]; exact (Below.refl _ _).alloc (Nat.le_refl _) _
    have S0 : V0.heap.size = w.heap.size + 1 := by rw [← hV0]; simp
    have BV : Hid (Below w.heap.size w V) := b0.trans (b1.mono b0.size)
    have F0 : V.cell? ⟨w.heap.size, 0, none⟩ = some (.string fr) := by
      have : Box V0 w.heap.size 9 #[.string fr] := by rw [← hV0]; exact Box.new _ _ _
      exact (this.belowS b1).cell 0
    have T0 : V.cell? ⟨w.heap.size + 1, 0, none⟩ = some (.string to) := by
      have : Box V V0.heap.size 9 #[.string to] := by rw [← hV]; exact Box.new _ _ _
      rw [← S0]; exact this.cell 0
    have hB2 := hB.below BV.out
    obtain ⟨hlt, hA, ka, kc, ia, ic, pl, us, c0, c1, c2, s0, sn, s1, hF⟩ := hB2
    have C1 := c_leafB p ia k.len ic V c1 (len_le4 hl4 hlk)
    rw [isNil_dec] at C1
    have szV : V.heap.size = w.heap.size + 2 := by rw [← hV]; simp [S0]
    cases hk : k.isNil
    · have hlk' : k.len = ks.length + 1 := hlk.resolve_left fun e => by rw [(Fo.isNil_len k).2 e] at hk; cases hk
      rw [allT_kids hk] at hri ⊢
      rw [hk] at C1
      have HF : Hid (RdF V A k us) := hF
      have HW : Hid k.wf := hwf
      have HSG : Hid (k.sg ks 0) := hsg
      have HRI : Hid (Rise k.all) := hri
      have HS : Hid (RdS V A ia k.len (us.map ptr)) := s1
      have HQ : Hid (RdS V A ka ks.length (ks.map Value.string)) := s0
      have IH : Hid (∀ (l : Fo) (ks' : List ByteArray) (q : Nat) (W : World), l.sz < N → RdB W A q ks' l → l.wf → ks'.length ≤ 4 → (l.len = 0 ∨ l.len = ks'.length + 1) → l.sg ks' 0 → Rise (allT ks' l) → Calls Try.prog 45 #[.pointer (some ⟨q, 0, none⟩), .string fr, .string to] W fun e w' => (∃ a' c', e = .returned (.slice a' (rgL fr to (allT ks' l)).length c') ∧ w'.ownsRow W.heap.size 9 1 (.slice a' (rgL fr to (allT ks' l)).length c') (rgL fr to (allT ks' l)).length ((rgL fr to (allT ks' l)).map Value.string)) ∧ Below W.heap.size W w') := fun l ks' q W => ih (by omega) l ks' A q W
      have HN : Hid (k.sz < N + 1) := hN
      obtain ⟨K, hK⟩ : ∃ K, k.len = K := ⟨_, rfl⟩
      obtain ⟨M, hM⟩ : ∃ M, ks.length = M := ⟨_, rfl⟩
      have HK : Hid (k.len = K) := hK
      have HML : Hid (ks.length = M) := hM
      have HKM : Hid (K = M + 1) := by unfold Hid; rw [← hK, ← hM]; exact hlk'
      have HLK : Hid (k.len = ks.length + 1) := hlk'
      rw [hK] at c1
      rw [hM] at c0 hl4
      have hK5 : K ≤ 5 := by have := HKM.out; omega
      clear hF hwf s1 ih hN hK hM s0 sn c2 hlt hA hB hlk hlk' hsg hri hk HB
      go_enter Try.func45, Try.ntmps45
      go_wp2_with fail
      refine C1.mono ?_
      rintro e w' ⟨rfl, hq⟩; have hq' := hq.symm; subst hq'; clear hq C1
      go_wp2
      clear hV0 hV b0 b1
      go_loopw [7, 23] (fun o i wr => ∃ (n : Nat) (f g : Fo) (a' : Option Addr) (c' m : Nat), n ≤ K ∧ i = .int .i64 n ∧ o = .slice a' m c' ∧ Hid ((rgL fr to f.all).length = m) ∧ Hid (k = f.app g) ∧ Hid (f.len = n) ∧ Hid (wr.ownsRow V.heap.size 9 1 (.slice a' m c') m ((rgL fr to f.all).map Value.string)) ∧ Hid (Below V.heap.size V wr)) (fun _ i _ => K - (intOf i).toNat)
      case atStart => exact ⟨0, .nil, k, none, 0, 0, by omega, rfl, rfl, rfl, rfl, rfl, World.ownsRow_nil V _ _ _, Below.refl _ _⟩
      case round =>
        obtain ⟨n, f, g, a1, cc1, m1, hn, rfl, rfl, HM, HE, HL, OW, BW⟩ := hrel
        by_cases hlt : n < K
        · obtain ⟨ks', l, r, hg, hsz⟩ := Fo.split_at HE.out HL.out (by rw [HK.out]; exact hlt)
          have hE := HE.out
          rw [hg] at hE
          obtain ⟨q, hq, hBq⟩ := RdF.at (hE ▸ HF.out)
          obtain ⟨b, off, rfl, hbl, hAb, hc⟩ := HS.out.2 (by rw [HK.out]; omega)
          have d0 : wr.cell? ⟨b, off + n, none⟩ = some (.pointer (some ⟨q, 0, none⟩)) := by rw [BW.out.cell (p := ⟨b, off + n, none⟩) hbl, hc n (by rw [HK.out]; exact hlt)]; exact map_ptr (by rw [← HL.out]; exact hq)
          have PT := partsN (hE ▸ HW.out) (hE ▸ HSG.out) (hE ▸ HLK.out) (hE ▸ HRI.out)
          obtain ⟨p1, p2, p3, p4, p5, p6, p7, p8, _⟩ := PT
          have HBq : Hid (RdB wr A q ks' l) := hBq.below BW.out
          have HE' : Hid (k = f.app (.node ks' l r)) := hE
          have ha1 := Fo.all_len f ((Fo.wf_app f _).1 (hE ▸ HW.out)).1
          have ha2 := allT_len (ks := ks') p3 p5
          have ha3 : f.sz ≤ k.sz := by rw [hE, Fo.sz_app]; omega
          have ha4 := HN.out
          have ha5 := rg_len fr to f.all
          have ha6 := rg_len fr to (allT ks' l)
          obtain ⟨m2, hm2⟩ : ∃ m, (rgL fr to (allT ks' l)).length = m := ⟨_, rfl⟩
          have HM2 : Hid ((rgL fr to (allT ks' l)).length = m2) := hm2
          have CK : Hid (∀ W, Below wr.heap.size wr W → Calls Try.prog 45 #[.pointer (some ⟨q, 0, none⟩), .string fr, .string to] W fun e w' => (∃ a' c', e = .returned (.slice a' m2 c') ∧ w'.ownsRow W.heap.size 9 1 (.slice a' m2 c') m2 ((rgL fr to (allT ks' l)).map Value.string)) ∧ Below W.heap.size W w') := fun W hW => by
            have := IH.out l ks' q W (by have := HN.out; omega) (HBq.out.below hW) p3 p5 p6 p2 p1
            rw [hm2] at this
            exact this
          rw [hm2] at ha6
          rw [HM.out] at ha5
          have hmm : m1 + m2 ≤ 10000 := by omega
          have HPT : Hid ((∀ x ∈ allT ks' l, f.len < ks.length → lt' x (ks.getD f.len zS)) ∧ ∀ x ∈ allT ks' l, 0 < f.len → x = ks.getD (f.len - 1) zS ∨ lt' (ks.getD (f.len - 1) zS) x) := ⟨p7, p8⟩
          have e4 : wr.cell? ⟨w.heap.size, 0, none⟩ = some (.string fr) := far6 BW.out F0
          have e5 : wr.cell? ⟨w.heap.size + 1, 0, none⟩ = some (.string to) := far6 BW.out T0
          have o0 : ∀ o : Out wr, o.y.cell? ⟨p, 0, none⟩ = some (.slice ka M kc) := fun o => q_cell (far6 BW.out c0) o
          have o4 : ∀ o : Out wr, o.y.cell? ⟨w.heap.size, 0, none⟩ = some (.string fr) := fun o => q_cell e4 o
          have o5 : ∀ o : Out wr, o.y.cell? ⟨w.heap.size + 1, 0, none⟩ = some (.string to) := fun o => q_cell e5 o
          clear hc hq hBq hE hg hsz IH HW HF HS HE ha1 ha2 ha3 ha4 ha5 ha6 hm2 p1 p2 p3 p4 p5 p6 p7 p8 HSG HRI HLK HBq
          by_cases h0 : 0 < n
          · have g0 : ((n : Int) == 0) = false := by simp; omega
            obtain ⟨kb, ko, hka, hkl, _, hkc⟩ := HQ.out.2 (by rw [HML.out]; have := HKM.out; omega)
            obtain ⟨y, hy⟩ : ∃ y, ks.getD (n - 1) zS = y := ⟨_, rfl⟩
            have HY : Hid (ks.getD (n - 1) zS = y) := hy
            subst hka
            have f0 : ∀ o : Out wr, o.y.cell? ⟨kb, ko + (n - 1), none⟩ = some (.string y) := fun o => by
              refine q_cell ?_ o
              rw [BW.out.cell (p := ⟨kb, ko + (n - 1), none⟩) hkl, hkc (n - 1) (by rw [HML.out]; have := HKM.out; omega), ← hy]
              exact map_get _ _ _ _ (by rw [HML.out]; have := HKM.out; omega)
            have w1 : IntKind.i64.wrap ((n : Int) - 1) = (n : Int) - 1 := by rw [IntKind.wrap_i64]; omega
            have w2 : ((n : Int) - 1).toNat = n - 1 := by omega
            have w3' : (0 : Int) ≤ (n : Int) - 1 := by omega
            have w4' : (n : Int) - 1 < (M : Int) := by have := HKM.out; omega
            have H0 : Hid (0 < n) := h0
            clear hy
            cases hhi : Op.bytesLess y.toList to.toList
            · have WHY : Hid (rgL fr to (allT ks' l) = []) := rgL_none fun x hx => rgB_hi (by have := HPT.out.2 x hx (by rw [HL.out]; exact H0.out); rw [HL.out, HY.out] at this; exact this) hhi
              go_wp2_with fail
              haveI nonE := Out.some wr
              refine q_begin (by kernel_rfl) (by kernel_rfl) ?_
              repeat (go_big_quiet_step (fail))
              refine wpQuiet_nil ?_
              rintro w3 ⟨⟨y', hb3⟩, hy⟩
              have hy' : w3 = y' := hy
              clear hy
              subst hy'
              have B3 : Hid (Below V.heap.size V w3) := BW.out.trans (hb3.mono BW.out.size)
              have O3 : Hid (w3.ownsRow V.heap.size 9 1 (.slice a1 m1 cc1) m1 ((rgL fr to f.all).map Value.string)) := own_below OW.out hb3
              have HN : Hid (rgL fr to (f.app (.node ks' l .nil)).all = rgL fr to f.all) := by unfold Hid; rw [Fo.all_app, Fo.all_node, Fo.all, List.append_nil, rgL_app, WHY.out, List.append_nil]
              clear hb3
              go_wp2
              go_roundw
              case rel => exact ⟨n + 1, f.app (.node ks' l .nil), r, a1, cc1, m1, by omega, by go_num, rfl, by unfold Hid; rw [HN.out]; exact HM.out, by unfold Hid; rw [← Fo.step_app]; exact HE'.out, by unfold Hid; rw [Fo.len_step, HL.out], by unfold Hid; rw [HN.out]; exact O3.out, B3.out⟩
              case measure => simp [intOf]; omega
            · skip
              by_cases h2 : n = M
              · have hb2 : ((n : Int) == (M : Int)) = true := by simp; omega
                have H2 : Hid (n = M) := h2
                clear h2
                go_wp2_with fail
                haveI nonE := Out.some wr
                refine q_begin (by kernel_rfl) (by kernel_rfl) ?_
                repeat (go_big_quiet_step (fail))
                refine wpQuiet_nil ?_
                rintro w3 ⟨⟨y', hb3⟩, hy⟩
                have hy' : w3 = y' := hy
                clear hy
                subst hy'
                have B3 : Hid (Below V.heap.size V w3) := BW.out.trans (hb3.mono BW.out.size)
                have O3 : Hid (w3.ownsRow V.heap.size 9 1 (.slice a1 m1 cc1) m1 ((rgL fr to f.all).map Value.string)) := own_below OW.out hb3
                have f3 : w3.cell? ⟨w.heap.size, 0, none⟩ = some (.string fr) := far6 hb3 e4
                have t3 : w3.cell? ⟨w.heap.size + 1, 0, none⟩ = some (.string to) := far6 hb3 e5
                have CC := CK.out w3 hb3
                clear hb3
                go_wp2_with fail
                refine CC.mono ?_
                rintro e w4 ⟨⟨a2, c2, rfl, o2⟩, hb4⟩
                have O4 : Hid (w4.ownsRow V.heap.size 9 1 (.slice a1 m1 cc1) m1 ((rgL fr to f.all).map Value.string)) := own_below O3.out hb4
                have B4 : Hid (Below V.heap.size V w4) := B3.out.trans (hb4.mono B3.out.size)
                have R4 : Hid (RdV w4 a2 m2 ((rgL fr to (allT ks' l)).map Value.string)) := RdV.own o2
                have N4 : Hid (a2 = none → c2 = 0) := own_src o2
                have s4 := B4.out.size
                clear hb4 o2 CC f3 t3
                obtain ⟨i0, hi, hz0, hz1, hz2⟩ := info_parts infoS
                go_wp2_with (at_builtin; refine app_any _ rfl (.tmp 62) (.tmp 66) 23 rfl V.heap.size 9 i0 (.string ⟨#[]⟩) 1 16 Try.underlying23 hi hz0 hz1 hz2 rfl (by omega) (.slice a1 m1 cc1) m1 ((rgL fr to f.all).map Value.string) rfl O4.out a2 m2 c2 ((rgL fr to (allT ks' l)).map Value.string) rfl (rdV_none R4.out N4.out) (by rw [R4.out.1]; omega) (fun ad e => src1 (e ▸ R4.out)) (map_one _ (fun _ => rfl) _) (by unfold maxLen; omega) (by omega) s4 ?_; intro a5 c5 w5 ho5 hg5 hx5)
                have HN : Hid (rgL fr to (f.app (.node ks' l .nil)).all = rgL fr to f.all ++ rgL fr to (allT ks' l)) := by unfold Hid; rw [Fo.all_app, Fo.all_node, Fo.all, List.append_nil, rgL_app]
                have O5 : Hid (w5.ownsRow V.heap.size 9 1 (.slice a5 (m1 + m2) c5) (m1 + m2) ((rgL fr to (f.app (.node ks' l .nil)).all).map Value.string)) := by unfold Hid; rw [HN.out, List.map_append]; exact ho5
                have B5 : Hid (Below V.heap.size V w5) := B4.out.grown hg5 B4.out.size (fun g hg => by
                  rcases own_form O4.out with ⟨h1, _⟩ | ⟨g', cp, h1, h2, _⟩
                  · rw [h1] at hg; cases hg
                  · rw [h1] at hg; cases hg; exact h2)
                clear ho5 hg5 hx5 O4 B4 R4 N4
                go_roundw
                case rel => exact ⟨n + 1, f.app (.node ks' l .nil), r, a5, c5, m1 + m2, by omega, by go_num, rfl, by unfold Hid; rw [HN.out, List.length_append, HM.out, HM2.out], by unfold Hid; rw [← Fo.step_app]; exact HE'.out, by unfold Hid; rw [Fo.len_step, HL.out], O5.out, B5.out⟩
                case measure => simp [intOf]; omega
              · have hb2 : ((n : Int) == (M : Int)) = false := by simp; omega
                have HM0 : Hid (n < M) := by unfold Hid; have := HKM.out; omega
                obtain ⟨z, hz⟩ : ∃ z, ks.getD n zS = z := ⟨_, rfl⟩
                have HZ : Hid (ks.getD n zS = z) := hz
                have o6 : ∀ o : Out wr, o.y.cell? ⟨kb, ko + n, none⟩ = some (.string z) := fun o => by
                  refine q_cell ?_ o
                  have := (BW.out.cell (p := ⟨kb, ko + n, none⟩) hkl).trans (hkc n (by rw [HML.out]; exact HM0.out))
                  rw [map_get _ _ zS _ (by rw [HML.out]; exact HM0.out), hz] at this
                  exact this
                have w6 : (n : Int) < (M : Int) := by have := HM0.out; omega
                have w7 : (0 : Int) ≤ (n : Int) := by omega
                clear hz h2
                cases hlo : Op.bytesLess fr.toList z.toList
                · have WHY : Hid (rgL fr to (allT ks' l) = []) := rgL_none fun x hx => rgB_lo (by have := HPT.out.1 x hx (by rw [HL.out, HML.out]; exact HM0.out); rw [HL.out, HZ.out] at this; exact this) hlo
                  go_wp2_with fail
                  haveI nonE := Out.some wr
                  refine q_begin (by kernel_rfl) (by kernel_rfl) ?_
                  repeat (go_big_quiet_step (fail))
                  refine wpQuiet_nil ?_
                  rintro w3 ⟨⟨y', hb3⟩, hy⟩
                  have hy' : w3 = y' := hy
                  clear hy
                  subst hy'
                  have B3 : Hid (Below V.heap.size V w3) := BW.out.trans (hb3.mono BW.out.size)
                  have O3 : Hid (w3.ownsRow V.heap.size 9 1 (.slice a1 m1 cc1) m1 ((rgL fr to f.all).map Value.string)) := own_below OW.out hb3
                  have HN : Hid (rgL fr to (f.app (.node ks' l .nil)).all = rgL fr to f.all) := by unfold Hid; rw [Fo.all_app, Fo.all_node, Fo.all, List.append_nil, rgL_app, WHY.out, List.append_nil]
                  clear hb3
                  go_wp2
                  go_roundw
                  case rel => exact ⟨n + 1, f.app (.node ks' l .nil), r, a1, cc1, m1, by omega, by go_num, rfl, by unfold Hid; rw [HN.out]; exact HM.out, by unfold Hid; rw [← Fo.step_app]; exact HE'.out, by unfold Hid; rw [Fo.len_step, HL.out], by unfold Hid; rw [HN.out]; exact O3.out, B3.out⟩
                  case measure => simp [intOf]; omega
                · go_wp2_with fail
                  haveI nonE := Out.some wr
                  refine q_begin (by kernel_rfl) (by kernel_rfl) ?_
                  repeat (go_big_quiet_step (fail))
                  refine wpQuiet_nil ?_
                  rintro w3 ⟨⟨y', hb3⟩, hy⟩
                  have hy' : w3 = y' := hy
                  clear hy
                  subst hy'
                  have B3 : Hid (Below V.heap.size V w3) := BW.out.trans (hb3.mono BW.out.size)
                  have O3 : Hid (w3.ownsRow V.heap.size 9 1 (.slice a1 m1 cc1) m1 ((rgL fr to f.all).map Value.string)) := own_below OW.out hb3
                  have f3 : w3.cell? ⟨w.heap.size, 0, none⟩ = some (.string fr) := far6 hb3 e4
                  have t3 : w3.cell? ⟨w.heap.size + 1, 0, none⟩ = some (.string to) := far6 hb3 e5
                  have CC := CK.out w3 hb3
                  clear hb3
                  go_wp2_with fail
                  refine CC.mono ?_
                  rintro e w4 ⟨⟨a2, c2, rfl, o2⟩, hb4⟩
                  have O4 : Hid (w4.ownsRow V.heap.size 9 1 (.slice a1 m1 cc1) m1 ((rgL fr to f.all).map Value.string)) := own_below O3.out hb4
                  have B4 : Hid (Below V.heap.size V w4) := B3.out.trans (hb4.mono B3.out.size)
                  have R4 : Hid (RdV w4 a2 m2 ((rgL fr to (allT ks' l)).map Value.string)) := RdV.own o2
                  have N4 : Hid (a2 = none → c2 = 0) := own_src o2
                  have s4 := B4.out.size
                  clear hb4 o2 CC f3 t3
                  obtain ⟨i0, hi, hz0, hz1, hz2⟩ := info_parts infoS
                  go_wp2_with (at_builtin; refine app_any _ rfl (.tmp 62) (.tmp 66) 23 rfl V.heap.size 9 i0 (.string ⟨#[]⟩) 1 16 Try.underlying23 hi hz0 hz1 hz2 rfl (by omega) (.slice a1 m1 cc1) m1 ((rgL fr to f.all).map Value.string) rfl O4.out a2 m2 c2 ((rgL fr to (allT ks' l)).map Value.string) rfl (rdV_none R4.out N4.out) (by rw [R4.out.1]; omega) (fun ad e => src1 (e ▸ R4.out)) (map_one _ (fun _ => rfl) _) (by unfold maxLen; omega) (by omega) s4 ?_; intro a5 c5 w5 ho5 hg5 hx5)
                  have HN : Hid (rgL fr to (f.app (.node ks' l .nil)).all = rgL fr to f.all ++ rgL fr to (allT ks' l)) := by unfold Hid; rw [Fo.all_app, Fo.all_node, Fo.all, List.append_nil, rgL_app]
                  have O5 : Hid (w5.ownsRow V.heap.size 9 1 (.slice a5 (m1 + m2) c5) (m1 + m2) ((rgL fr to (f.app (.node ks' l .nil)).all).map Value.string)) := by unfold Hid; rw [HN.out, List.map_append]; exact ho5
                  have B5 : Hid (Below V.heap.size V w5) := B4.out.grown hg5 B4.out.size (fun g hg => by
                    rcases own_form O4.out with ⟨h1, _⟩ | ⟨g', cp, h1, h2, _⟩
                    · rw [h1] at hg; cases hg
                    · rw [h1] at hg; cases hg; exact h2)
                  clear ho5 hg5 hx5 O4 B4 R4 N4
                  go_roundw
                  case rel => exact ⟨n + 1, f.app (.node ks' l .nil), r, a5, c5, m1 + m2, by omega, by go_num, rfl, by unfold Hid; rw [HN.out, List.length_append, HM.out, HM2.out], by unfold Hid; rw [← Fo.step_app]; exact HE'.out, by unfold Hid; rw [Fo.len_step, HL.out], O5.out, B5.out⟩
                  case measure => simp [intOf]; omega
          · obtain rfl : n = 0 := by omega
            rw [Nat.add_zero] at d0
            by_cases h2 : 0 = M
            · have hb2 : ((0 : Int) == (M : Int)) = true := by simp; omega
              have H2 : Hid (0 = M) := h2
              clear h2
              go_wp2_with fail
              haveI nonE := Out.some wr
              refine q_begin (by kernel_rfl) (by kernel_rfl) ?_
              repeat (go_big_quiet_step (fail))
              refine wpQuiet_nil ?_
              rintro w3 ⟨⟨y', hb3⟩, hy⟩
              have hy' : w3 = y' := hy
              clear hy
              subst hy'
              have B3 : Hid (Below V.heap.size V w3) := BW.out.trans (hb3.mono BW.out.size)
              have O3 : Hid (w3.ownsRow V.heap.size 9 1 (.slice a1 m1 cc1) m1 ((rgL fr to f.all).map Value.string)) := own_below OW.out hb3
              have f3 : w3.cell? ⟨w.heap.size, 0, none⟩ = some (.string fr) := far6 hb3 e4
              have t3 : w3.cell? ⟨w.heap.size + 1, 0, none⟩ = some (.string to) := far6 hb3 e5
              have CC := CK.out w3 hb3
              clear hb3
              go_wp2_with fail
              refine CC.mono ?_
              rintro e w4 ⟨⟨a2, c2, rfl, o2⟩, hb4⟩
              have O4 : Hid (w4.ownsRow V.heap.size 9 1 (.slice a1 m1 cc1) m1 ((rgL fr to f.all).map Value.string)) := own_below O3.out hb4
              have B4 : Hid (Below V.heap.size V w4) := B3.out.trans (hb4.mono B3.out.size)
              have R4 : Hid (RdV w4 a2 m2 ((rgL fr to (allT ks' l)).map Value.string)) := RdV.own o2
              have N4 : Hid (a2 = none → c2 = 0) := own_src o2
              have s4 := B4.out.size
              clear hb4 o2 CC f3 t3
              obtain ⟨i0, hi, hz0, hz1, hz2⟩ := info_parts infoS
              go_wp2_with (at_builtin; refine app_any _ rfl (.tmp 62) (.tmp 66) 23 rfl V.heap.size 9 i0 (.string ⟨#[]⟩) 1 16 Try.underlying23 hi hz0 hz1 hz2 rfl (by omega) (.slice a1 m1 cc1) m1 ((rgL fr to f.all).map Value.string) rfl O4.out a2 m2 c2 ((rgL fr to (allT ks' l)).map Value.string) rfl (rdV_none R4.out N4.out) (by rw [R4.out.1]; omega) (fun ad e => src1 (e ▸ R4.out)) (map_one _ (fun _ => rfl) _) (by unfold maxLen; omega) (by omega) s4 ?_; intro a5 c5 w5 ho5 hg5 hx5)
              have HN : Hid (rgL fr to (f.app (.node ks' l .nil)).all = rgL fr to f.all ++ rgL fr to (allT ks' l)) := by unfold Hid; rw [Fo.all_app, Fo.all_node, Fo.all, List.append_nil, rgL_app]
              have O5 : Hid (w5.ownsRow V.heap.size 9 1 (.slice a5 (m1 + m2) c5) (m1 + m2) ((rgL fr to (f.app (.node ks' l .nil)).all).map Value.string)) := by unfold Hid; rw [HN.out, List.map_append]; exact ho5
              have B5 : Hid (Below V.heap.size V w5) := B4.out.grown hg5 B4.out.size (fun g hg => by
                rcases own_form O4.out with ⟨h1, _⟩ | ⟨g', cp, h1, h2, _⟩
                · rw [h1] at hg; cases hg
                · rw [h1] at hg; cases hg; exact h2)
              clear ho5 hg5 hx5 O4 B4 R4 N4
              go_roundw
              case rel => exact ⟨0 + 1, f.app (.node ks' l .nil), r, a5, c5, m1 + m2, by omega, by go_num, rfl, by unfold Hid; rw [HN.out, List.length_append, HM.out, HM2.out], by unfold Hid; rw [← Fo.step_app]; exact HE'.out, by unfold Hid; rw [Fo.len_step, HL.out], O5.out, B5.out⟩
              case measure => simp [intOf]; omega
            · have hb2 : ((0 : Int) == (M : Int)) = false := by simp; omega
              have HM0 : Hid (0 < M) := by unfold Hid; have := HKM.out; omega
              obtain ⟨kb, ko, hka, hkl, _, hkc⟩ := HQ.out.2 (by rw [HML.out]; exact HM0.out)
              subst hka
              obtain ⟨z, hz⟩ : ∃ z, ks.getD 0 zS = z := ⟨_, rfl⟩
              have HZ : Hid (ks.getD 0 zS = z) := hz
              have o6 : ∀ o : Out wr, o.y.cell? ⟨kb, ko, none⟩ = some (.string z) := fun o => by
                refine q_cell ?_ o
                have := (BW.out.cell (p := ⟨kb, ko + 0, none⟩) hkl).trans (hkc 0 (by rw [HML.out]; exact HM0.out))
                rw [map_get _ _ zS _ (by rw [HML.out]; exact HM0.out), hz, Nat.add_zero] at this
                exact this
              have w6 : (0 : Int) < (M : Int) := by have := HM0.out; omega
              have w7 : (0 : Int) ≤ (0 : Int) := by omega
              clear hz h2
              cases hlo : Op.bytesLess fr.toList z.toList
              · have WHY : Hid (rgL fr to (allT ks' l) = []) := rgL_none fun x hx => rgB_lo (by have := HPT.out.1 x hx (by rw [HL.out, HML.out]; exact HM0.out); rw [HL.out, HZ.out] at this; exact this) hlo
                go_wp2_with fail
                haveI nonE := Out.some wr
                refine q_begin (by kernel_rfl) (by kernel_rfl) ?_
                repeat (go_big_quiet_step (fail))
                refine wpQuiet_nil ?_
                rintro w3 ⟨⟨y', hb3⟩, hy⟩
                have hy' : w3 = y' := hy
                clear hy
                subst hy'
                have B3 : Hid (Below V.heap.size V w3) := BW.out.trans (hb3.mono BW.out.size)
                have O3 : Hid (w3.ownsRow V.heap.size 9 1 (.slice a1 m1 cc1) m1 ((rgL fr to f.all).map Value.string)) := own_below OW.out hb3
                have HN : Hid (rgL fr to (f.app (.node ks' l .nil)).all = rgL fr to f.all) := by unfold Hid; rw [Fo.all_app, Fo.all_node, Fo.all, List.append_nil, rgL_app, WHY.out, List.append_nil]
                clear hb3
                go_wp2
                go_roundw
                case rel => exact ⟨0 + 1, f.app (.node ks' l .nil), r, a1, cc1, m1, by omega, by go_num, rfl, by unfold Hid; rw [HN.out]; exact HM.out, by unfold Hid; rw [← Fo.step_app]; exact HE'.out, by unfold Hid; rw [Fo.len_step, HL.out], by unfold Hid; rw [HN.out]; exact O3.out, B3.out⟩
                case measure => simp [intOf]; omega
              · go_wp2_with fail
                haveI nonE := Out.some wr
                refine q_begin (by kernel_rfl) (by kernel_rfl) ?_
                repeat (go_big_quiet_step (fail))
                refine wpQuiet_nil ?_
                rintro w3 ⟨⟨y', hb3⟩, hy⟩
                have hy' : w3 = y' := hy
                clear hy
                subst hy'
                have B3 : Hid (Below V.heap.size V w3) := BW.out.trans (hb3.mono BW.out.size)
                have O3 : Hid (w3.ownsRow V.heap.size 9 1 (.slice a1 m1 cc1) m1 ((rgL fr to f.all).map Value.string)) := own_below OW.out hb3
                have f3 : w3.cell? ⟨w.heap.size, 0, none⟩ = some (.string fr) := far6 hb3 e4
                have t3 : w3.cell? ⟨w.heap.size + 1, 0, none⟩ = some (.string to) := far6 hb3 e5
                have CC := CK.out w3 hb3
                clear hb3
                go_wp2_with fail
                refine CC.mono ?_
                rintro e w4 ⟨⟨a2, c2, rfl, o2⟩, hb4⟩
                have O4 : Hid (w4.ownsRow V.heap.size 9 1 (.slice a1 m1 cc1) m1 ((rgL fr to f.all).map Value.string)) := own_below O3.out hb4
                have B4 : Hid (Below V.heap.size V w4) := B3.out.trans (hb4.mono B3.out.size)
                have R4 : Hid (RdV w4 a2 m2 ((rgL fr to (allT ks' l)).map Value.string)) := RdV.own o2
                have N4 : Hid (a2 = none → c2 = 0) := own_src o2
                have s4 := B4.out.size
                clear hb4 o2 CC f3 t3
                obtain ⟨i0, hi, hz0, hz1, hz2⟩ := info_parts infoS
                go_wp2_with (at_builtin; refine app_any _ rfl (.tmp 62) (.tmp 66) 23 rfl V.heap.size 9 i0 (.string ⟨#[]⟩) 1 16 Try.underlying23 hi hz0 hz1 hz2 rfl (by omega) (.slice a1 m1 cc1) m1 ((rgL fr to f.all).map Value.string) rfl O4.out a2 m2 c2 ((rgL fr to (allT ks' l)).map Value.string) rfl (rdV_none R4.out N4.out) (by rw [R4.out.1]; omega) (fun ad e => src1 (e ▸ R4.out)) (map_one _ (fun _ => rfl) _) (by unfold maxLen; omega) (by omega) s4 ?_; intro a5 c5 w5 ho5 hg5 hx5)
                have HN : Hid (rgL fr to (f.app (.node ks' l .nil)).all = rgL fr to f.all ++ rgL fr to (allT ks' l)) := by unfold Hid; rw [Fo.all_app, Fo.all_node, Fo.all, List.append_nil, rgL_app]
                have O5 : Hid (w5.ownsRow V.heap.size 9 1 (.slice a5 (m1 + m2) c5) (m1 + m2) ((rgL fr to (f.app (.node ks' l .nil)).all).map Value.string)) := by unfold Hid; rw [HN.out, List.map_append]; exact ho5
                have B5 : Hid (Below V.heap.size V w5) := B4.out.grown hg5 B4.out.size (fun g hg => by
                  rcases own_form O4.out with ⟨h1, _⟩ | ⟨g', cp, h1, h2, _⟩
                  · rw [h1] at hg; cases hg
                  · rw [h1] at hg; cases hg; exact h2)
                clear ho5 hg5 hx5 O4 B4 R4 N4
                go_roundw
                case rel => exact ⟨0 + 1, f.app (.node ks' l .nil), r, a5, c5, m1 + m2, by omega, by go_num, rfl, by unfold Hid; rw [HN.out, List.length_append, HM.out, HM2.out], by unfold Hid; rw [← Fo.step_app]; exact HE'.out, by unfold Hid; rw [Fo.len_step, HL.out], O5.out, B5.out⟩
                case measure => simp [intOf]; omega
        · have e : n = K := by omega
          subst e
          have EK : Hid (k = f) := Fo.split_end HE.out (by rw [HL.out, HK.out])
          go_wp2
          go_ret
          refine ⟨⟨a1, cc1, ?_, ?_⟩, BV.out.trans (BW.out.mono BV.out.size)⟩
          · rw [EK.out, HM.out]; rfl
          · rw [EK.out, HM.out]; exact OW.out.down BV.out.size
    · rw [allT_leaf hk] at hri ⊢
      rw [hk] at C1
      have C2 := c_those fr to w.heap.size (w.heap.size + 1) ka ks.length kc ks V s0.rd (by omega) F0 T0
      obtain ⟨M, hM⟩ : ∃ M, ks.length = M := ⟨_, rfl⟩
      rw [hM] at c0 C2
      obtain ⟨R, hR⟩ : ∃ R, rgL fr to ks = R := ⟨_, rfl⟩
      rw [hR] at C2 ⊢
      clear hF hwf s0 sn s1 hlt hA hk hN ih hsg hri hlk hM hl4 hB HB hR
      go_enter Try.func45, Try.ntmps45
      go_wp2_with fail
      refine C1.mono ?_
      rintro e w' ⟨rfl, hq⟩; have hq' := hq.symm; subst hq'; clear hq C1
      go_wp2_with fail
      refine C2.mono ?_
      rintro e w' ⟨⟨a', c', rfl, o'⟩, hb⟩
      have O' : Hid (w'.ownsRow w.heap.size 9 1 (.slice a' R.length c') R.length (R.map Value.string)) := o'.down BV.out.size
      have B' : Hid (Below w.heap.size w w') := BV.out.trans (hb.mono BV.out.size)
      clear o' hb C2
      go_wp2
      go_ret
      exact ⟨⟨a', c', rfl, O'.out⟩, B'.out⟩

end Go.Proofs.Ythnggpjgajkaeaa
