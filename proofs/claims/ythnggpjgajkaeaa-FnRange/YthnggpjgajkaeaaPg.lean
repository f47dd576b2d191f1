/-
  What the program's grown answers.
-/
import Derived.Test.YthnggpjgajkaeaaPf
namespace Go.Proofs.Ythnggpjgajkaeaa
open Go Go.RowKit
attribute [local go_sem ↓] Go.wp_at_zero Go.wp_at_succ

theorem own_cap {w : World} {base e size n cap : Nat} {a : Addr} {xs : List Value} (h : w.ownsRow base e size (.slice (some a) n cap) n xs) : n ≤ cap ∧ cap ≤ maxLen := by
  rcases h.2 with ⟨h1, _⟩ | ⟨g', cp, cur, h1, _, _, h4, h5, _⟩
  · cases h1
  · cases h1; exact ⟨h4, h5⟩
theorem FlL.up {w : World} {z z' : Nat} {ps : List Nat} {L : List (List ByteArray × List Nat)} (h : FlL w z ps L) (hz : z ≤ z') : FlL w z' ps L := ⟨h.1, fun i p v h1 h2 => (h.2 i p v h1 h2).up hz⟩
theorem FlL.join {w : World} {z : Nat} {ps qs : List Nat} {L L' : List (List ByteArray × List Nat)} (h : FlL w z ps L) (h' : FlL w z qs L') : FlL w z (ps ++ qs) (L ++ L') := by
  refine ⟨by rw [List.length_append, List.length_append, h.1, h'.1], fun i p v h1 h2 => ?_⟩
  rcases Nat.lt_or_ge i ps.length with hi | hi
  · rw [List.getElem?_append_left hi] at h1
    rw [List.getElem?_append_left (h.1 ▸ hi)] at h2
    exact h.2 i p v h1 h2
  · rw [List.getElem?_append_right hi] at h1
    rw [List.getElem?_append_right (h.1 ▸ hi), ← h.1] at h2
    exact h'.2 _ p v h1 h2
structure AnsG (ps : List Nat) (M : List ByteArray) (w w' : World) (b' off' c' : Nat) (qs : List Nat) (L : List (List ByteArray × List Nat)) : Prop where
  le : (ps ++ qs).length ≤ c'
  rd : RdS w' (fun _ => True) (some ⟨b', off', none⟩) (ps ++ qs).length ((ps ++ qs).map ptr)
  is : Grown ps M qs L
  new : ∀ q ∈ qs, w.heap.size ≤ q
  nodup : qs.Nodup
  few : qs.length ≤ ps.length
  flat : ∃ z, FlL w' z qs L
set_option maxRecDepth 100000 in
set_option maxHeartbeats 8000000 in
theorem c_grown : ∀ (N b off c z : Nat) (ps : List Nat) (M : List ByteArray) (d : Nat) (w : World), ps.length ≤ N → 0 < ps.length → ps.length ≤ 61 → ps.length ≤ c → c ≤ 9223372036854775807 → RdS w (NP w) (some ⟨b, off, none⟩) ps.length (ps.map ptr) → Lev w z d ps M →
    Calls Try.prog 62 #[.slice (some ⟨b, off, none⟩) ps.length c] w fun e w' => (∃ b' off' c' qs L, e = .returned (.slice (some ⟨b', off', none⟩) (ps ++ qs).length c') ∧ AnsG ps M w w' b' off' c' qs L) ∧ Below w.heap.size w w' := by
  intro N
  induction N with
  | zero => intro b off c z ps M d w h h0; omega
  | succ N ih =>
    intro b off c z ps M d w hN h0 h61 hc hc9 hr hlev
    by_cases h1 : ps.length = 1
    · have C := c_grown1 (some ⟨b, off, none⟩) c w
      rw [h1]
      refine C.mono ?_
      rintro e w' ⟨rfl, rfl⟩
      refine ⟨⟨b, off, c, [], [], by simp [h1], ⟨by simpa using hc, ?_, .one h1, by simp, List.nodup_nil, by simp, 0, rfl, by simp⟩⟩, Below.refl _ _⟩
      simpa using hr.up (fun _ _ => trivial)
    · obtain ⟨i0, hi, hz0, hz1, hz2⟩ := info_parts infoPtr
      obtain ⟨m, hm⟩ : ∃ m, ps.length = m := ⟨_, rfl⟩
      have hq1 : ((m : Int) == 1) = false := by simp; omega
      have CS := c_shareB b off m c 5 w (by omega) (by omega) (by omega) hc9 (by omega) (by omega)
      have hPl := parts_len 5 m m
      have hPh := parts_half (most := 5) (by omega) m m (by omega) (Nat.le_refl _)
      have hPs := parts_sum (most := 5) (by omega) m m (Nat.le_refl _)
      have hPp := parts_pos (most := 5) (by omega) m m
      have hP2 := fun d => parts_two (most := 5) (by omega) m m d (by omega)
      have hPn := parts_some (most := 5) (show 0 < m by omega) (Nat.le_refl m)
      obtain ⟨P, hP⟩ : ∃ P, parts 5 m m = P := ⟨_, rfl⟩
      have HGM : Hid (∀ up qs L, up.length = P.length → Grown up (upM P M) qs L → Grown ps M (up ++ qs) (upL P M ps ++ L)) := by
        intro up qs L e g
        have := Grown.more (ps := ps) (up := up) (qs := qs) (M := M) (L := L) (by omega) (by rw [hm, hP]; exact e) (by rw [hm, hP]; exact g)
        rwa [hm, hP] at this
      rw [hP] at CS hPl hPh hPs hPp hP2 hPn
      obtain ⟨k9, hk9⟩ : ∃ k9, P.length = k9 := ⟨_, rfl⟩
      rw [hk9] at CS hPl hPh hPn
      have HM : Hid (P.length = k9) := hk9
      have HPS : Hid (P.sum = m) := hPs
      have HPP : Hid (∀ d ∈ P, 0 < d ∧ d ≤ 5) := hPp
      have HP2 : Hid (∀ d ∈ P, 2 ≤ d) := hP2
      rw [hm] at hr hN h61 hc ⊢
      have HR : Hid (RdS w (NP w) (some ⟨b, off, none⟩) m (ps.map ptr)) := hr
      have HLV : Hid (Lev w z d ps M) := hlev
      have HPL : Hid (ps.length = m) := hm
      have HML : Hid (M.length = m) := hlev.1 ▸ hm
      have IH : Hid (∀ (b off c z : Nat) (ps : List Nat) (M : List ByteArray) (d : Nat) (w : World), ps.length ≤ N → 0 < ps.length → ps.length ≤ 61 → ps.length ≤ c → c ≤ 9223372036854775807 → RdS w (NP w) (some ⟨b, off, none⟩) ps.length (ps.map ptr) → Lev w z d ps M → Calls Try.prog 62 #[.slice (some ⟨b, off, none⟩) ps.length c] w fun e w' => (∃ b' off' c' qs L, e = .returned (.slice (some ⟨b', off', none⟩) (ps ++ qs).length c') ∧ AnsG ps M w w' b' off' c' qs L) ∧ Below w.heap.size w w') := ih
      have hbl : b < w.heap.size := by obtain ⟨_, _, e, hl, _⟩ := hr.2 (by omega); cases e; exact hl
      clear hP hk9 hPs hPp hP2 hr hlev ih hm h1 h0
      go_enter Try.func62, Try.ntmps62
      go_wp2_with fail
      refine CS.mono ?_
      rintro e w1 ⟨⟨a9, c9, rfl, o9⟩, b9⟩
      have R9 : Hid (RdV w1 a9 k9 (segV b off c P)) := RdV.own o9
      have N9 : Hid (Below w.heap.size w w1) := b9
      have hbz : b < w1.heap.size := Nat.lt_of_lt_of_le hbl b9.size
      clear CS o9 b9
      go_wp2
      go_loopw [3, 13] (fun o i wr => ∃ (k : Nat) (a1 : Option Addr) (c1 : Nat) (up : List Nat), k ≤ k9 ∧ i = .int .i64 k ∧ o = .slice a1 k c1 ∧ Hid (up.length = k) ∧ Hid (∀ p ∈ up, w1.heap.size ≤ p) ∧ Hid up.Nodup ∧ Hid (wr.ownsRow w1.heap.size 57 1 (.slice a1 k c1) k (up.map ptr)) ∧ Hid (FlL wr w1.heap.size up ((upL P M ps).take k)) ∧ Hid (Below w1.heap.size w1 wr)) (fun _ i _ => k9 - (intOf i).toNat)
      case atStart => exact ⟨0, none, 0, [], by omega, rfl, rfl, rfl, (fun p h => by simp at h), List.nodup_nil, World.ownsRow_nil _ _ _ _, ⟨rfl, (fun i p v h => by simp at h)⟩, Below.refl _ _⟩
      case round =>
        obtain ⟨k, a1, c1, up, hk, rfl, rfl, HL, HG, HD, OR, FR, BR⟩ := hrel
        by_cases hlt : k < k9
        · obtain ⟨d1, hd⟩ : ∃ d, P[k]? = some d := ⟨_, List.getElem?_eq_getElem (by rw [HM.out]; exact hlt)⟩
          obtain ⟨b9, o9, rfl, hl9, hc9'⟩ := R9.out.2 (by omega)
          obtain ⟨K, hK⟩ : ∃ K, (P.take k).sum = K := ⟨_, rfl⟩
          have hdb := HPP.out d1 (List.mem_of_getElem? hd)
          have hd2 := HP2.out d1 (List.mem_of_getElem? hd)
          have hsum : K + d1 ≤ m := by rw [← hK, ← HPS.out]; exact sum_at P k d1 hd
          have e0 : wr.cell? ⟨b9, o9 + k, none⟩ = some (.slice (some ⟨b, off + K, none⟩) d1 (c - K)) := by rw [BR.out.cell (p := ⟨b9, o9 + k, none⟩) hl9, hc9' k hlt, segV_at b P off c k d1 hd, hK]
          have bw : Below w.heap.size w wr := N9.out.trans (BR.out.mono N9.out.size)
          have RP := (HR.out.part hsum hdb.1).keep bw.size (NP.keep bw)
          obtain ⟨b0', off0', e0', hl0, hn0, hc0⟩ := RP.2 hdb.1
          cases e0'
          have CO := c_over w1.heap.size b (off + K) d1 (c - K) hbz ((ps.drop K).take d1) ((M.drop K).take d1) wr hd2 hdb.2 (by rw [List.length_take, List.length_drop, HPL.out]; omega) (by rw [List.length_take, List.length_drop, HML.out]; omega) hl0 hn0 (by omega) (by omega) (by intro i hi'; rw [hc0 i hi', List.map_take, List.map_drop]) (by
            intro i p W hp hbW
            have hi' : i < d1 := by
              have := (List.getElem?_eq_some_iff.1 hp).1
              rw [List.length_take] at this; omega
            rw [List.getElem?_take_of_lt hi', List.getElem?_drop] at hp
            have q := ((HLV.out.2 (K + i) p hp).below bw).below hbW
            have e : (((M.drop K).take d1).getD i ⟨#[]⟩) = M.getD (K + i) ⟨#[]⟩ := by rw [List.getD_eq_getElem?_getD, List.getD_eq_getElem?_getD, List.getElem?_take_of_lt hi', List.getElem?_drop]
            rw [e]
            exact c_leastD _ _ p _ W q)
          obtain ⟨cK, hcK⟩ : ∃ x, c - K = x := ⟨_, rfl⟩
          rw [hcK] at e0 CO
          have HUA : Hid ((upL P M ps)[k]? = some (((M.drop K).take d1).drop 1, (ps.drop K).take d1)) := by unfold Hid; rw [upL_at hd, hK]
          clear RP hc0 hn0 hc9' hd hK bw hcK
          go_wp2_with fail
          refine CO.mono ?_
          rintro e w2 ⟨⟨p, rfl, hp, hfl⟩, hb2⟩
          obtain ⟨V2, hV2⟩ : ∃ V2, w2.alloc (.cells #[.pointer (some ⟨p, 0, none⟩)] 57) = V2 := ⟨_, rfl⟩
          have b2 : Below w2.heap.size w2 V2 := by rw [← hV2]; exact (Below.refl _ _).alloc (Nat.le_refl _) _
          have b12 : Below wr.heap.size wr V2 := hb2.trans (b2.mono hb2.size)
          have B2 : Hid (Below w1.heap.size w1 V2) := BR.out.trans (b12.mono BR.out.size)
          have F2 : Hid (FlL V2 w1.heap.size (up ++ [p]) ((upL P M ps).take (k + 1))) := by
            unfold Hid
            rw [List.take_add_one, HUA.out]
            exact (FR.out.below b12).add (hfl.below b2)
          have O2 : Hid (V2.ownsRow w1.heap.size 57 1 (.slice a1 k c1) k (up.map ptr)) := own_below OR.out b12
          have C2 : Hid (V2.cell? ⟨w2.heap.size, 0, none⟩ = some (.pointer (some ⟨p, 0, none⟩))) := by unfold Hid; rw [← hV2]; exact (Box.new _ _ _).cell 0
          have D2 : Hid (up ++ [p]).Nodup := by
            unfold Hid
            rw [List.nodup_append]
            refine ⟨HD.out, by simp, fun p' hp' q hq e => ?_⟩
            have := FR.out.lt p' hp'
            simp at hq
            omega
          have G2 : Hid (∀ q ∈ up ++ [p], w1.heap.size ≤ q) := by
            intro q hq
            rw [List.mem_append] at hq
            rcases hq with hq | hq
            · exact HG.out q hq
            · simp at hq; subst hq; exact Nat.le_trans BR.out.size hp
          have s2 : w1.heap.size ≤ V2.heap.size := B2.out.size
          clear b2 b12 hb2 hfl FR OR BR HG HD HUA CO
          go_wp2_with (at_builtin; refine app_any _ rfl (.tmp 17) (.tmp 20) 84 rfl w1.heap.size 57 i0 (.pointer none) 1 8 Try.underlying84 hi hz0 hz1 hz2 rfl (by omega) (.slice a1 k c1) k (up.map ptr) rfl O2.out (some ⟨w2.heap.size, 0, none⟩) 1 1 [.pointer (some ⟨p, 0, none⟩)] rfl (fun h => by cases h) rfl (fun ad e => by cases e; intro j u hu; cases j with | zero => (cases hu; exact C2.out) | succ j => simp at hu) (by intro u hu; simp at hu; subst hu; rfl) (by unfold maxLen; omega) (by omega) s2 ?_; intro a5 c5 w5 ho5 hg5 hx5)
          have O5 : Hid (w5.ownsRow w1.heap.size 57 1 (.slice a5 (k + 1) c5) (k + 1) ((up ++ [p]).map ptr)) := by unfold Hid; rw [List.map_append]; exact ho5
          have B5 : Hid (Below w1.heap.size w1 w5) := B2.out.grown hg5 B2.out.size (fun g hg => (own_blk O2.out g (by rw [ob_slice] at hg; exact hg)).1)
          have F5 : Hid (FlL w5 w1.heap.size (up ++ [p]) ((upL P M ps).take (k + 1))) := F2.out.grown O2.out (Nat.le_refl _) (by rw [ob_slice] at hg5; exact hg5)
          clear ho5 hg5 hx5 O2 B2 F2 C2 hV2
          go_roundw
          case rel => exact ⟨k + 1, a5, c5, up ++ [p], by omega, by go_num, rfl, by unfold Hid; rw [List.length_append, HL.out]; rfl, G2.out, D2.out, O5.out, F5.out, B5.out⟩
          case measure => simp [intOf]; omega
        · obtain rfl : k = k9 := by omega
          have hof := own_form OR.out
          obtain ⟨g, rfl⟩ : ∃ g, a1 = some ⟨g, 0, none⟩ := by
            rcases hof with ⟨_, h'⟩ | ⟨g, cp, h, _⟩
            · omega
            · cases h; exact ⟨g, rfl⟩
          obtain ⟨hca, hcb⟩ := own_cap OR.out
          have bw : Below w.heap.size w wr := N9.out.trans (BR.out.mono N9.out.size)
          have FU : FlL wr w1.heap.size up (upL P M ps) := by have := FR.out; rwa [List.take_of_length_le (by rw [upL_len, HM.out]; exact Nat.le_refl _)] at this
          have LV : Lev wr (max z w1.heap.size) (d + 1) up (upM P M) := by
            refine ⟨by rw [HL.out, upM_len, HM.out], fun i p hp => ?_⟩
            have hi' : i < P.length := by rw [HM.out, ← HL.out]; exact (List.getElem?_eq_some_iff.1 hp).1
            obtain ⟨d1, hd⟩ : ∃ d, P[i]? = some d := ⟨_, List.getElem?_eq_getElem hi'⟩
            have hdb := HPP.out d1 (List.mem_of_getElem? hd)
            have hsum := sum_at P i d1 hd
            rw [HPS.out] at hsum
            have hKm : (P.take i).sum < ps.length := by rw [HPL.out]; omega
            have f1 := FU.2 i p _ hp (upL_at hd)
            have e2 : (upM P M).getD i ⟨#[]⟩ = M.getD (P.take i).sum ⟨#[]⟩ := by
              rw [List.getD_eq_getElem?_getD, upM_at hd, Option.getD_some, List.getD_eq_getElem?_getD, List.getElem?_take_of_lt hdb.1, List.getElem?_drop, Nat.add_zero, ← List.getD_eq_getElem?_getD]
            rw [e2]
            refine Lst.over (f1.up (Nat.le_max_right _ _)) (q := ps[(P.take i).sum]) (by rw [List.getElem?_take_of_lt hdb.1, List.getElem?_drop, Nat.add_zero, List.getElem?_eq_getElem hKm]) (by rw [List.length_take]; omega) ?_
            exact ((HLV.out.2 _ _ (List.getElem?_eq_getElem hKm)).below bw).up (Nat.le_max_left _ _)
          have CI := IH.out g 0 c1 (max z w1.heap.size) up (upM P M) (d + 1) wr (by rw [HL.out]; omega) (by rw [HL.out]; omega) (by rw [HL.out]; omega) (by rw [HL.out]; exact hca) (by unfold maxLen at hcb; omega) (by rw [HL.out]; exact RdS.own OR.out (NP.own OR.out (by decide))) LV
          rw [HL.out] at CI
          have HFU : Hid (FlL wr w1.heap.size up (upL P M ps)) := FU
          have HBW : Hid (Below w.heap.size w wr) := bw
          clear LV FU FR hof bw hca hcb
          go_wp2_with fail
          refine CI.mono ?_
          rintro e w2 ⟨⟨b', off', c', qs, L, rfl, A⟩, hb2⟩
          have HA : Hid (AnsG up (upM P M) wr w2 b' off' c' qs L) := A
          have hfew : qs.length ≤ k := by have := A.few; rwa [HL.out] at this
          have hTl : (up ++ qs).length ≤ m := by rw [List.length_append, HL.out]; omega
          have RT := A.rd
          have hRT : (up ++ qs).length = (up ++ qs).length := rfl
          obtain ⟨T, hT⟩ : ∃ T, (up ++ qs).length = T := ⟨_, rfl⟩
          rw [hT] at RT hTl ⊢
          obtain ⟨V2, hV2⟩ : ∃ V2, w2.alloc (.cells #[.slice (some ⟨b, off, none⟩) m c, .slice (some ⟨b', off', none⟩) T c'] 84) = V2 := ⟨_, rfl⟩
          have b2 : Below w2.heap.size w2 V2 := by rw [← hV2]; exact (Below.refl _ _).alloc (Nat.le_refl _) _
          have B3 : Hid (Below wr.heap.size wr V2) := hb2.trans (b2.mono hb2.size)
          have X2 : Box V2 w2.heap.size 84 #[.slice (some ⟨b, off, none⟩) m c, .slice (some ⟨b', off', none⟩) T c'] := by rw [← hV2]; exact Box.new _ _ _
          have BV : Hid (Below w.heap.size w V2) := HBW.out.trans (B3.out.mono HBW.out.size)
          have CC := c_concatP w2.heap.size (some ⟨b, off, none⟩) m c ps (some ⟨b', off', none⟩) T c' (up ++ qs) V2 X2 (HR.out.rd.below BV.out) (RT.rd.below b2) (by omega) (by omega) (fun h => by cases h) (fun h => by cases h)
          have HT2 : Hid (Below w2.heap.size w2 V2) := b2
          clear RT hRT X2 b2 hb2 A CI OR
          go_wp2_with fail
          refine CC.mono ?_
          rintro e w3 ⟨⟨ha, hc3, rfl, o3⟩, hb3⟩
          have hof := own_form o3
          obtain ⟨g3, rfl⟩ : ∃ g, ha = some ⟨g, 0, none⟩ := by
            rcases hof with ⟨_, h'⟩ | ⟨g, cp, h, _⟩
            · rw [List.length_append, HPL.out] at h'; omega
            · cases h; exact ⟨g, rfl⟩
          have BF : Hid (Below w.heap.size w w3) := BV.out.trans (hb3.mono BV.out.size)
          have HAN : Hid (AnsG ps M w w3 g3 0 hc3 (up ++ qs) (upL P M ps ++ L)) := by
            obtain ⟨zq, fq⟩ := HA.out.flat
            have b13 : Below wr.heap.size wr w3 := B3.out.trans (hb3.mono B3.out.size)
            have b23 : Below w2.heap.size w2 w3 := HT2.out.trans (hb3.mono HT2.out.size)
            refine ⟨(own_cap o3).1, RdS.own o3 (fun _ _ => trivial), HGM.out up qs L (by rw [HL.out, HM.out]) HA.out.is, ?_, ?_, by rw [HPL.out, hT]; exact hTl, max w1.heap.size zq, FlL.join ((HFU.out.below b13).up (Nat.le_max_left _ _)) ((fq.below b23).up (Nat.le_max_right _ _))⟩
            · intro q hq
              rw [List.mem_append] at hq
              rcases hq with hq | hq
              · exact Nat.le_trans N9.out.size (HG.out q hq)
              · exact Nat.le_trans HBW.out.size (HA.out.new q hq)
            · rw [List.nodup_append]
              refine ⟨HD.out, HA.out.nodup, fun p hp q hq e => ?_⟩
              have h8 := HFU.out.lt p hp
              have h9 := HA.out.new q hq
              omega
          clear o3 hb3 hof CC HA hT
          go_wp2
          go_ret
          exact ⟨⟨g3, 0, hc3, up ++ qs, upL P M ps ++ L, by rw [List.length_append, List.length_append]; rfl, HAN.out⟩, BF.out⟩

end Go.Proofs.Ythnggpjgajkaeaa
