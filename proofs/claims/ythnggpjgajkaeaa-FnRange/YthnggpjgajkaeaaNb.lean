/-
  Keys that are searched for: the search of a list, of a branch, of a tree.
-/
import Derived.Test.YthnggpjgajkaeaaMl
import Derived.Test.YthnggpjgajkaeaaNa
import Derived.Deep.RegionHeld3
namespace Go.Proofs.Ythnggpjgajkaeaa
open Go Go.RowKit
attribute [local go_sem ↓] Go.wp_at_zero Go.wp_at_succ

theorem c_nanC (s : ByteArray) (w : World) : Calls Try.prog 90 #[.string s] w fun e w' => e = .returned (.bool false) ∧ w' = w := by
  have h : (s.toList == s.toList) = true := by simp
  go_enter Try.func90, Try.ntmps90
  go_wp2
  go_ret
  exact ⟨rfl, rfl⟩
theorem c_nanS (s : ByteArray) (w : World) : Calls Try.prog 69 #[.string s] w fun e w' => e = .returned (.bool false) ∧ w' = w := by
  have h : (s.toList == s.toList) = true := by simp
  go_enter Try.func69, Try.ntmps69
  go_wp2
  go_ret
  exact ⟨rfl, rfl⟩
set_option maxRecDepth 100000 in
set_option maxHeartbeats 8000000 in
theorem c_less (s u : ByteArray) (w : World) : Calls Try.prog 68 #[.string s, .string u] w fun e w' => e = .returned (.bool (Op.bytesLess s.toList u.toList)) ∧ w' = w := by
  go_enter Try.func68, Try.ntmps68
  go_wp2_with fail
  refine (c_nanC s _).mono ?_
  rintro e w' ⟨rfl, hq⟩; have hq' := hq.symm; subst hq'; clear hq
  go_wp2
  go_ret
  exact ⟨rfl, rfl⟩
theorem ret_pb {a b : Int} {p q : Bool} (h : a = b) (h' : p = q) : Ending.returned (.tuple #[.int .i64 a, .bool p]) = .returned (.tuple #[.int .i64 b, .bool q]) := by rw [h, h']
theorem mid_wrap (p q : Nat) (h : p + q ≤ 1048576) : IntKind.u64.wrap ((p : Int) + (q : Int)) = (p : Int) + (q : Int) := by
  unfold IntKind.wrap; simp [IntKind.bits, IntKind.signed]; omega
theorem inK_lt {key : ByteArray} {K : List ByteArray} {p n : Nat} (hl : K.length = n) (hp : posK key K = p) (h : p < n) : inK key K = decide (K.getD p zS = key) := by
  unfold inK; rw [hp, decide_eq_true (by omega)]; rfl
theorem inK_end {key : ByteArray} {K : List ByteArray} {p n : Nat} (hl : K.length = n) (hp : posK key K = p) (h : ¬ p < n) : inK key K = false := by
  unfold inK; rw [hp, decide_eq_false (by omega)]; rfl
set_option maxRecDepth 100000 in
set_option maxHeartbeats 8000000 in
theorem c_bs (a : Option Addr) (n c : Nat) (K : List ByteArray) (key : ByteArray) (w : World) (hr : RdV w a n (K.map Value.string)) (hn : n ≤ 4096) (hso : Rise K) :
    Calls Try.prog 42 #[.slice a n c, .string key] w fun e w' => e = .returned (.tuple #[.int .i64 (posK key K), .bool (inK key K)]) ∧ w' = w := by
  obtain ⟨hl, hcs⟩ := hr
  simp only [List.length_map] at hl
  have HSO : Hid (Rise K) := hso
  have HLN : Hid (K.length = n) := hl
  have HCS : Hid (0 < n → ∃ b off, a = some ⟨b, off, none⟩ ∧ b < w.heap.size ∧ ∀ i, i < n → w.cell? ⟨b, off + i, none⟩ = (K.map Value.string)[i]?) := hcs
  clear hso hl hcs
  go_enter Try.func42, Try.ntmps42
  go_wp2
  go_loop [7, 8] (fun i j => ∃ p q : Nat, p ≤ q ∧ q ≤ n ∧ i = .int .i64 p ∧ j = .int .i64 q ∧ Hid (∀ k, k < p → lt' (K.getD k zS) key) ∧ Hid (q < n → ¬ lt' (K.getD q zS) key)) (fun i j => (intOf j).toNat - (intOf i).toNat)
  case atStart => exact ⟨0, n, by omega, by omega, rfl, rfl, fun k h => absurd h (by omega), fun h => absurd h (by omega)⟩
  case round =>
    obtain ⟨p, q, hpq, hqn, rfl, rfl, H1, H2⟩ := hrel
    by_cases hlt : p < q
    · obtain ⟨b, off, rfl, hbl, hc⟩ := HCS.out (by omega)
      obtain ⟨m, hm⟩ : ∃ m, m = (p + q) / 2 := ⟨_, rfl⟩
      have hmp : p ≤ m := by omega
      have hmq : m < q := by omega
      obtain ⟨y, hy⟩ : ∃ y, K.getD m zS = y := ⟨_, rfl⟩
      have e0 : w.cell? ⟨b, off + m, none⟩ = some (.string y) := by rw [hc m (by omega), ← hy]; exact map_get _ _ _ _ (by rw [HLN.out]; omega)
      have HL : Hid (Op.bytesLess y.toList key.toList = true → ∀ k, k < m + 1 → lt' (K.getD k zS) key) := fun h k hk => by
        have hk0 : lt' (K.getD m zS) key := by rw [hy]; exact h
        by_cases e : k = m
        · rw [e]; exact hk0
        · exact lt'_trans (HSO.out.at (show k < m by omega) (by rw [HLN.out]; omega)) hk0
      have HH : Hid (Op.bytesLess y.toList key.toList = false → m < n → ¬ lt' (K.getD m zS) key) := fun h _ => by rw [hy]; unfold lt'; rw [h]; simp
      have g1 : (0 : Int) ≤ ((p : Int) + (q : Int)) / 2 := by omega
      have g2 : ((p : Int) + (q : Int)) / 2 < (n : Int) := by omega
      have g3 : (((p : Int) + (q : Int)) / 2).toNat = m := by omega
      have hw1 := mid_wrap p q (by omega)
      have C := c_less y key w
      clear hc HCS hy
      subst hm
      go_wp2_with fail
      refine C.mono ?_
      rintro e w' ⟨rfl, hq⟩; have hq' := hq.symm; subst hq'; clear hq C
      cases hx : Op.bytesLess y.toList key.toList
      · have HN : Hid ((p + q) / 2 < n → ¬ lt' (K.getD ((p + q) / 2) zS) key) := HH.out hx
        clear hx HL HH
        go_wp2
        go_round
        case rel => exact ⟨p, (p + q) / 2, by omega, by omega, rfl, by first | go_num | (simp; done), H1, HN⟩
        case measure => simp [intOf]; omega
      · have HN : Hid (∀ k, k < (p + q) / 2 + 1 → lt' (K.getD k zS) key) := HL.out hx
        clear hx HL HH
        go_wp2
        go_round
        case rel => exact ⟨(p + q) / 2 + 1, q, by omega, by omega, by first | go_num | (simp; done), rfl, HN, H2⟩
        case measure => simp [intOf]; omega
    · have e : p = q := by omega
      subst e
      have HP : Hid (posK key K = p) := posK_is (by rw [HLN.out]; omega) H1.out (fun h => H2.out (by rw [← HLN.out]; exact h))
      by_cases hpn : p < n
      · obtain ⟨b, off, rfl, hbl, hc⟩ := HCS.out (by omega)
        obtain ⟨y, hy⟩ : ∃ y, K.getD p zS = y := ⟨_, rfl⟩
        have e0 : w.cell? ⟨b, off + p, none⟩ = some (.string y) := by rw [hc p hpn, ← hy]; exact map_get _ _ _ _ (by rw [HLN.out]; omega)
        have HI : Hid (inK key K = decide (y = key)) := by unfold Hid; rw [inK_lt HLN.out HP.out hpn, hy]
        have g1 : (0 : Int) ≤ (p : Int) := by omega
        have g2 : (p : Int) < (n : Int) := by omega
        clear hc HCS hy
        by_cases hq : y = key
        · have hq' : (y.toList == key.toList) = true := by simp [hq]
          have HQ : Hid (y = key) := hq
          clear hq
          go_wp2
          go_ret2
          exact ⟨ret_pb (by rw [HP.out]) (by rw [HI.out, decide_eq_true HQ.out]), rfl⟩
        · have hq' : (y.toList == key.toList) = false := by rw [beq_eq_false_iff_ne]; exact fun e => hq (toList_inj e)
          have HQ : Hid (y ≠ key) := hq
          clear hq
          go_wp2_with (first | (go_at_call 69; refine (c_nanS _ _).mono ?_; rintro e w' ⟨rfl, hq⟩; have hq' := hq.symm; subst hq'; clear hq))
          go_ret2
          exact ⟨ret_pb (by rw [HP.out]) (by rw [HI.out, decide_eq_false HQ.out]), rfl⟩
      · have HI : Hid (inK key K = false) := inK_end HLN.out HP.out hpn
        go_wp2
        go_ret2
        exact ⟨ret_pb (by rw [HP.out]) HI.out.symm, rfl⟩
set_option maxRecDepth 100000 in
set_option maxHeartbeats 8000000 in
theorem c_l09At (a : Option Addr) (n c : Nat) (K : List ByteArray) (key : ByteArray) (w : World) (hr : RdV w a n (K.map Value.string)) (hn : n ≤ 4096) :
    Calls Try.prog 49 #[.slice a n c, .string key] w fun e w' => e = .returned (.int .i64 (posK key K)) ∧ w' = w := by
  obtain ⟨hl, hcs⟩ := hr
  simp only [List.length_map] at hl
  have HLN : Hid (K.length = n) := hl
  have HCS : Hid (0 < n → ∃ b off, a = some ⟨b, off, none⟩ ∧ b < w.heap.size ∧ ∀ i, i < n → w.cell? ⟨b, off + i, none⟩ = (K.map Value.string)[i]?) := hcs
  clear hl hcs
  go_enter Try.func49, Try.ntmps49
  go_wp2
  go_loop [5] (fun i => ∃ p : Nat, p ≤ n ∧ i = .int .i64 p ∧ Hid (∀ k, k < p → lt' (K.getD k zS) key)) (fun i => n - (intOf i).toNat)
  case atStart => exact ⟨0, by omega, rfl, fun k h => absurd h (by omega)⟩
  case round =>
    obtain ⟨p, hp, rfl, H1⟩ := hrel
    by_cases hlt : p < n
    · obtain ⟨b, off, rfl, hbl, hc⟩ := HCS.out (by omega)
      obtain ⟨y, hy⟩ : ∃ y, K.getD p zS = y := ⟨_, rfl⟩
      have HY : Hid (K.getD p zS = y) := hy
      have e0 : w.cell? ⟨b, off + p, none⟩ = some (.string y) := by rw [hc p hlt, ← hy]; exact map_get _ _ _ _ (by rw [HLN.out]; omega)
      clear hc hy
      cases hx : Op.bytesLess y.toList key.toList
      · have HP : Hid (posK key K = p) := posK_is (by rw [HLN.out]; omega) H1.out (fun _ => by rw [HY.out]; unfold lt'; rw [hx]; simp)
        go_wp2
        go_ret
        exact ⟨ret_int (by rw [HP.out]), rfl⟩
      · have HN : Hid (∀ k, k < p + 1 → lt' (K.getD k zS) key) := fun k hk => by
          by_cases e : k = p
          · rw [e, HY.out]; exact hx
          · exact H1.out k (by omega)
        go_wp2
        go_round
        case rel => exact ⟨p + 1, by omega, by go_num, HN⟩
        case measure => simp [intOf]; omega
    · have e : p = n := by omega
      subst e
      have HP : Hid (posK key K = p) := posK_is (by rw [HLN.out]; omega) H1.out (fun h => absurd h (by rw [HLN.out]; omega))
      go_wp2
      go_ret
      exact ⟨ret_int (by rw [HP.out]), rfl⟩
set_option maxRecDepth 100000 in
set_option maxHeartbeats 8000000 in
theorem c_has (key : ByteArray) : ∀ (N : Nat), N ≤ 1000 → ∀ (k : Fo) (ks : List ByteArray) (A : Nat → Prop) (p : Nat) (w : World), k.sz < N → RdB w A p ks k → k.wf → ks.length ≤ 4 → (k.len = 0 ∨ k.len = ks.length + 1) → k.sg ks 0 → Rise (allT ks k) → Calls Try.prog 47 #[.pointer (some ⟨p, 0, none⟩), .string key] w fun e w' => e = .returned (.bool (inK key (allT ks k))) ∧ w' = w := by
  intro N
  induction N with
  | zero => intro _ k ks A p w h; exact absurd h (by omega)
  | succ N ih =>
    intro hNN k ks A p w hN hB hwf hl4 hlk hsg hri
    obtain ⟨hlt, hA, ka, kc, ia, ic, pl, us, c0, c1, c2, s0, sn, s1, hF⟩ := hB
    have C1 := c_leafB p ia k.len ic w c1 (len_le4 hl4 hlk)
    rw [isNil_dec] at C1
    have C2 := c_bs ka ks.length kc ks key w s0.rd (by omega) (rise_tree hwf hsg hlk hri)
    obtain ⟨M, hM⟩ : ∃ M, ks.length = M := ⟨_, rfl⟩
    obtain ⟨P, hP⟩ : ∃ P, posK key ks = P := ⟨_, rfl⟩
    obtain ⟨I, hI⟩ : ∃ I, inK key ks = I := ⟨_, rfl⟩
    have HPL : Hid (P ≤ M) := by unfold Hid; rw [← hP, ← hM]; exact posK_le key ks
    rw [hM] at c0 C2
    rw [hP, hI] at C2
    cases hk : k.isNil
    · have hlk' : k.len = ks.length + 1 := hlk.resolve_left fun e => by rw [(Fo.isNil_len k).2 e] at hk; cases hk
      rw [allT_kids hk] at hri ⊢
      rw [hk] at C1
      cases I
      · obtain ⟨g, us', l, r, e, hg⟩ := Fo.cut_at k P (by rw [hlk', hM]; have := HPL.out; omega)
        have E : Hid (inK key k.all = inK key (allT us' l)) := by unfold Hid; subst e; exact find_kid hwf hsg hlk' hri (by rw [hg, hP]) hI
        subst e
        obtain ⟨p1, p2, p3, p4, p5, p6, _⟩ := partsN hwf hsg hlk' hri
        obtain ⟨q, hq, hBq⟩ := RdF.at hF
        obtain ⟨b, off, rfl, hbl, hAb, hc⟩ := s1.2 (by rw [hlk']; omega)
        have d0 : w.cell? ⟨b, off + P, none⟩ = some (.pointer (some ⟨q, 0, none⟩)) := by rw [hc P (by rw [hlk', hM]; have := HPL.out; omega)]; exact map_ptr (by rw [← hg]; exact hq)
        have CC := ih (by omega) l us' A q w (by rw [Fo.sz_app, Fo.sz] at hN; omega) hBq p3 p5 p6 p2 p1
        obtain ⟨KL, hKL⟩ : ∃ n, (g.app (.node us' l r)).len = n := ⟨_, rfl⟩
        rw [hKL] at c1
        have g2 : (P : Int) < (KL : Int) := by rw [← hKL, hlk', hM]; have := HPL.out; omega
        have g1 : (0 : Int) ≤ (P : Int) := by omega
        rw [E.out]
        obtain ⟨R, hR⟩ : ∃ R, inK key (allT us' l) = R := ⟨_, rfl⟩
        rw [hR] at CC ⊢
        have g3 : KL ≤ 5 := by rw [← hKL]; exact len_le4 hl4 hlk
        clear hc hF hBq hwf s0 sn s1 hlt hA hAb hk hl4 hN ih hq hg hsg hri hlk hlk' p1 p2 p3 p4 p5 p6 hM hP hI E hR hKL
        go_enter Try.func47, Try.ntmps47
        go_wp2_with fail
        refine C2.mono ?_
        rintro e w' ⟨rfl, hq⟩; have hq' := hq.symm; subst hq'; clear hq C2
        go_wp2_with fail
        refine C1.mono ?_
        rintro e w' ⟨rfl, hq⟩; have hq' := hq.symm; subst hq'; clear hq C1
        go_wp2_with fail
        refine CC.mono ?_
        rintro e w' ⟨rfl, hq⟩; have hq' := hq.symm; subst hq'; clear hq CC
        go_wp2
        go_ret
        exact ⟨rfl, rfl⟩
      · have E : Hid (inK key k.all = true) := find_here hwf hsg hlk' hri hI
        rw [E.out]
        clear hF hwf s0 sn s1 hlt hA hk hl4 hN ih hsg hri hlk hlk' hM hP hI E
        go_enter Try.func47, Try.ntmps47
        go_wp2_with fail
        refine C2.mono ?_
        rintro e w' ⟨rfl, hq⟩; have hq' := hq.symm; subst hq'; clear hq C2
        go_wp2
        go_ret
        exact ⟨rfl, rfl⟩
    · rw [allT_leaf hk] at hri ⊢
      rw [hk] at C1
      rw [hI]
      clear hF hwf s0 sn s1 hlt hA hk hl4 hN ih hsg hri hlk hM hP hI
      cases I
      · go_enter Try.func47, Try.ntmps47
        go_wp2_with fail
        refine C2.mono ?_
        rintro e w' ⟨rfl, hq⟩; have hq' := hq.symm; subst hq'; clear hq C2
        go_wp2_with fail
        refine C1.mono ?_
        rintro e w' ⟨rfl, hq⟩; have hq' := hq.symm; subst hq'; clear hq C1
        go_wp2
        go_ret
        exact ⟨rfl, rfl⟩
      · go_enter Try.func47, Try.ntmps47
        go_wp2_with fail
        refine C2.mono ?_
        rintro e w' ⟨rfl, hq⟩; have hq' := hq.symm; subst hq'; clear hq C2
        go_wp2
        go_ret
        exact ⟨rfl, rfl⟩

end Go.Proofs.Ythnggpjgajkaeaa
