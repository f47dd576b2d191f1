/-
  The root of a tree, and whether it is right: the program.
-/
import Derived.Test.YthnggpjgajkaeaaMf
import Derived.Laws.Tables
import Derived.Laws.Rows
namespace Go.Proofs.Ythnggpjgajkaeaa
open Go Go.RowKit
attribute [local go_sem ↓] Go.wp_at_zero Go.wp_at_succ

theorem cl_mem (L : List ND) (P : ByteArray → Prop) (hP : ∀ j : Int, ∀ s ∈ (at' L j).2.1, P s) : ∀ (n : Nat) (m : List Bool) (js : List Int) (f : Fo) (m' : List Bool), cl L n m js = some (f, m') → ∀ s ∈ f.all, P s := by
  intro n
  induction n with
  | zero =>
    intro m js f m' h
    cases js with
    | nil => simp only [cl, Option.some.injEq, Prod.mk.injEq] at h; obtain ⟨rfl, rfl⟩ := h; exact fun s hs => by cases hs
    | cons j js => simp [cl] at h
  | succ n ih =>
    intro m js f m' h
    cases js with
    | nil => simp only [cl, Option.some.injEq, Prod.mk.injEq] at h; obtain ⟨rfl, rfl⟩ := h; exact fun s hs => by cases hs
    | cons j js =>
      rw [cl] at h
      by_cases ho : okN L m j = true
      · rw [if_pos ho] at h
        cases h1 : cl L n (m.set j.toNat true) (at' L j).2.2 with
        | none => rw [h1] at h; simp at h
        | some p =>
          obtain ⟨f1, m2⟩ := p
          rw [h1] at h
          dsimp only at h
          by_cases hk : (at' L j).2.1 = []
          · rw [if_pos hk] at h; simp at h
          · rw [if_neg hk] at h
            cases h2 : cl L n m2 js with
            | none => rw [h2] at h; simp at h
            | some p =>
              obtain ⟨g, m3⟩ := p
              rw [h2] at h
              simp only [Option.some.injEq, Prod.mk.injEq] at h
              obtain ⟨rfl, rfl⟩ := h
              intro s hs
              rw [Fo.all_node, List.mem_append, allT] at hs
              rcases hs with hs | hs
              · split at hs
                · exact hP j s hs
                · exact ih _ _ _ _ h1 s hs
              · exact ih _ _ _ _ h2 s hs
      · rw [if_neg ho] at h; simp at h
theorem C1_mem {L : List ND} {m : List Bool} {j : Int} {f : Fo} {m2 : List Bool} (P : ByteArray → Prop) (hP : ∀ j : Int, ∀ s ∈ (at' L j).2.1, P s) (h : C1 L m j = some (f, m2)) : ∀ s ∈ allT (at' L j).2.1 f, P s := by
  have ho := C1_ok h
  unfold C1 at h
  rw [if_pos ho] at h
  intro s hs
  unfold allT at hs
  split at hs
  · exact hP j s hs
  · exact cl_mem L P hP _ _ _ _ _ h s hs
theorem at_fit {w0 : World} {la : Option Addr} {ln : Nat} {vs : List TNode} (h : NodesIn w0 la ln vs) : ∀ j : Int, ∀ s ∈ (at' (vs.map saysN) j).2.1, s.size ≤ 1048576 := by
  intro j s hs
  by_cases hj : j.toNat < vs.length
  · have e : at' (vs.map saysN) j = saysN (vs.getD j.toNat zeroN) := by
      unfold at'
      rw [List.getD_eq_getElem?_getD, List.getElem?_map, List.getElem?_eq_getElem hj, List.getD_eq_getElem?_getD, List.getElem?_eq_getElem hj]
      rfl
    rw [e] at hs
    have := (h.fit j.toNat (by rw [← h.rd.1]; exact hj)).2.2 s hs
    omega
  · have e : at' (vs.map saysN) j = zND := by
      unfold at'
      rw [List.getD_eq_getElem?_getD, List.getElem?_eq_none (by simpa using hj)]
      rfl
    rw [e] at hs
    cases hs
theorem zero96 : Try.zeroCells96 = (.slice none 0 0 :: (List.replicate 200 (.bool false) ++ [.int .i64 0]) : List Value).toArray := by kernel_rfl
theorem cnt_rep (n : Nat) : cnt (List.replicate n false) = n := by simp [cnt]
theorem zero96_set (la : Option Addr) (ln lc : Nat) (h : ln ≤ 200) : Try.zeroCells96.setIfInBounds 0 (.slice la ln lc) = (cC la ln lc (List.replicate ln false) 0).toArray := by
  rw [zero96, List.setIfInBounds_toArray, List.set_cons_zero]
  unfold cC
  rw [List.map_replicate, List.length_replicate, List.replicate_append_replicate, show ln + (200 - ln) = 200 by omega]
  rfl
theorem cC_one {la : Option Addr} {ln lc : Nat} {m : List Bool} {r : Nat} : (cC la ln lc m r).toArray.all (·.oneCell') = true := by
  rw [List.all_toArray, List.all_eq_true]
  intro u hu
  unfold cC at hu
  simp only [List.mem_cons, List.mem_append, List.mem_map, List.mem_replicate, List.not_mem_nil, or_false] at hu
  rcases hu with rfl | (⟨b, _, rfl⟩ | ⟨_, rfl⟩) | rfl <;> rfl
/-- What rootOf answers. -/
def AnsR (L : List ND) (ro : Int) (e : Ending) (w' : World) : Prop := (e = .returned (.pointer none) ∧ ¬ TG L ro) ∨ ∃ p ks f d A, e = .returned (.pointer (some ⟨p, 0, none⟩)) ∧ TGood L ro ks f d ∧ RdB w' A p ks f
theorem notTG_climb {L : List ND} {ro : Int} (h : C1 L (List.replicate L.length false) ro = none) : ¬ TG L ro := by
  rintro ⟨ks, f, d, g⟩
  obtain ⟨m', h1, _⟩ := g.climb
  rw [h] at h1; cases h1
theorem TG_same {L : List ND} {ro : Int} {f : Fo} {m' : List Bool} (h : C1 L (List.replicate L.length false) ro = some (f, m')) {ks : List ByteArray} {f' : Fo} {d : Nat} (g : TGood L ro ks f' d) : f' = f ∧ cnt m' = 0 ∧ ks = (at' L ro).2.1 := by
  obtain ⟨m2, h1, h2⟩ := g.climb
  rw [h] at h1
  simp only [Option.some.injEq, Prod.mk.injEq] at h1
  obtain ⟨rfl, rfl⟩ := h1
  exact ⟨rfl, h2, g.root⟩
set_option maxRecDepth 100000 in
set_option maxHeartbeats 20000000 in
theorem c_rootOf (ro : Int) (la : Option Addr) (ln lc : Nat) (vs : List TNode) (w : World) (hr : RdN w la ln vs) (hn : ln ≤ 1048576) (hf : ∀ i, i < ln → FitN (vs.getD i zeroN)) (hnil : ∀ i, i < ln → (vs.getD i zeroN).ka = none → (vs.getD i zeroN).kc = 0) :
    Calls Try.prog 44 #[.agg #[.int .i64 ro, .slice la ln lc]] w fun e w' => AnsR (vs.map saysN) ro e w' ∧ Below w.heap.size w w' := by
  have hLl : (vs.map saysN).length = ln := by rw [List.length_map]; exact hr.1
  have HLL : Hid ((vs.map saysN).length = ln) := hLl
  obtain ⟨V, hV⟩ : ∃ Q, w.alloc (.cells #[.int .i64 ro, .slice la ln lc] 27) = Q := ⟨_, rfl⟩
  have bV : Below w.heap.size w V := by rw [← hV]; exact (Below.refl _ _).alloc (Nat.le_refl _) _
  have XV : Hid (Box V w.heap.size 27 #[.int .i64 ro, .slice la ln lc]) := by unfold Hid; rw [← hV]; exact Box.new _ _ _
  have x0 : V.cell? ⟨w.heap.size, 0, none⟩ = some (.int .i64 ro) := XV.out.cell 0
  have x1 : V.cell? ⟨w.heap.size, 1, none⟩ = some (.slice la ln lc) := XV.out.cell 1
  have BV : Hid (Below w.heap.size w V) := bV
  by_cases h2 : 200 < ln
  · have HO : Hid (¬ TG (vs.map saysN) ro) := by rintro ⟨ks, f, d, g⟩; have := g.few; omega
    clear hr hf hnil hLl bV
    go_enter Try.func44, Try.ntmps44
    go_wp2
    go_ret
    exact ⟨.inl ⟨rfl, HO.out⟩, BV.out⟩
  · have HIN : NodesIn w la ln vs := ⟨hr, by omega, hf, hnil⟩
    obtain ⟨V1, hV1⟩ : ∃ Q, V.alloc (.cells Try.zeroCells96 96) = Q := ⟨_, rfl⟩
    have b1 : Below V.heap.size V V1 := by rw [← hV1]; exact (Below.refl _ _).alloc (Nat.le_refl _) _
    have X1 : Box V1 V.heap.size 96 Try.zeroCells96 := by rw [← hV1]; exact Box.new _ _ _
    obtain ⟨V2, hV2⟩ : ∃ Q, V1.setRow V.heap.size (Try.zeroCells96.setIfInBounds 0 (.slice la ln lc)) = Q := ⟨_, rfl⟩
    have X2 : BoxC V2 V.heap.size la ln lc (List.replicate ln false) 0 := by
      unfold BoxC
      rw [← hV2, ← zero96_set la ln lc (by omega)]
      exact setRow_heap V1 _ _ _ _ _ X1
    have S2 : V2.heap.size = V1.heap.size := by rw [← hV2]; unfold World.setRow; simp
    have hsz : w.heap.size < V.heap.size := XV.out.lt
    have B2 : Below w.heap.size w V2 := by
      have k := BV.out.trans (b1.mono BV.out.size)
      rw [← hV2]
      exact ⟨k.os, k.tape, k.output, by have := k.size; unfold World.setRow; simpa using this, fun g hg => (setRow_other V1 _ g _ (by omega)).trans (k.block g hg)⟩
    have P2 : Box V2 w.heap.size 27 #[.int .i64 ro, .slice la ln lc] := by
      rw [← hV2]
      exact (setRow_other V1 _ w.heap.size _ (by omega)).trans (XV.out.belowS b1)
    have c0 : V2.cell? ⟨w.heap.size, 0, none⟩ = some (.int .i64 ro) := P2.cell 0
    have CC := c_climb w la ln lc vs V.heap.size HIN BV.out.size (ln + 1) (List.replicate ln false) ro V2 (by rw [cnt_rep]; omega) (by simp) B2 (by rw [cnt_rep, Nat.sub_self]; exact X2)
    have HIN' : Hid (NodesIn w la ln vs) := HIN
    have HP2 : Hid (Box V2 w.heap.size 27 #[.int .i64 ro, .slice la ln lc]) := P2
    have HB2 : Hid (Below w.heap.size w V2) := B2
    have hlt2 : ln ≤ 200 := by omega
    have HG : Hid (V1.heap[V.heap.size]? = some (.cells Try.zeroCells96 96 (0, 0))) := X1
    have HI : Hid ((Try.prog.info? 96).map (·.size) = some (Try.zeroCells96.setIfInBounds 0 (.slice la ln lc)).size) := by unfold Hid; rw [Array.size_setIfInBounds]; kernel_rfl
    have HO1 : Hid (Try.zeroCells96.size = (Try.zeroCells96.setIfInBounds 0 (.slice la ln lc)).size) := by unfold Hid; rw [Array.size_setIfInBounds]
    have HA1 : Hid ((Try.zeroCells96.setIfInBounds 0 (.slice la ln lc)).all (·.oneCell') = true) := by unfold Hid; rw [zero96_set la ln lc hlt2]; exact cC_one
    have HSV : Hid (w.heap.size < V.heap.size) := hsz
    clear hr hf hnil hLl bV b1 X1 X2 S2 B2 P2 HIN hsz
    go_enter Try.func44, Try.ntmps44
    go_wp2_with (first | (refine wpList_store_row rfl 96 (.tmp 3) (.tmp 11) rfl V.heap.size (Try.zeroCells96.setIfInBounds 0 (.slice la ln lc)) rfl rfl 96 Try.zeroCells96 HG.out HI.out HO1.out HA1.out ?_))
    refine CC.mono ?_
    rintro e w3 ⟨hans, hI3⟩
    have B3 : Hid (Below w.heap.size w w3) := HB2.out.trans (hI3.below (by have := HSV.out; omega) HB2.out.size)
    have P3 : Hid (Box w3 w.heap.size 27 #[.int .i64 ro, .slice la ln lc]) := HP2.out.innO hI3 (.inl HSV.out)
    have y1 : w3.cell? ⟨w.heap.size, 1, none⟩ = some (.slice la ln lc) := P3.out.cell 1
    clear hI3 CC hV hV1 hV2 x0 x1 c0
    rcases hans with ⟨rfl, hno⟩ | ⟨p, f, m', rfl, hy⟩
    · have HO : Hid (¬ TG (vs.map saysN) ro) := notTG_climb (by rw [HLL.out]; exact hno)
      clear hno
      go_wp2
      go_ret
      exact ⟨.inl ⟨rfl, HO.out⟩, B3.out⟩
    · have hc : C1 (vs.map saysN) (List.replicate (vs.map saysN).length false) ro = some (f, m') := by rw [HLL.out]; exact hy.is
      have HC : Hid (C1 (vs.map saysN) (List.replicate (vs.map saysN).length false) ro = some (f, m')) := hc
      have q1 := C1_facts hy.is
      have q2 := C1_sz hy.is
      have q3 := C1_wf hy.is
      rw [cnt_rep] at q1 q2
      have hml : m'.length = ln := by rw [q1.1]; simp
      have y2 : w3.cell? ⟨V.heap.size, 201, none⟩ = some (.int .i64 ((ln - cnt m' : Nat) : Int)) := hy.box.count (by omega)
      obtain ⟨r, hr⟩ : ∃ r, ln - cnt m' = r := ⟨_, rfl⟩
      rw [hr] at y2
      have HRd : Hid (RdB w3 (fun g => g < w.heap.size ∨ V2.heap.size ≤ g) p (at' (vs.map saysN) ro).2.1 f) := hy.rd
      have HMem := C1_mem (fun s => s.size ≤ 1048576) (at_fit HIN'.out) hy.is
      have HMM : Hid (∀ s ∈ allT (at' (vs.map saysN) ro).2.1 f, s.size ≤ 1048576) := HMem
      obtain ⟨ks, hks⟩ : ∃ ks, (at' (vs.map saysN) ro).2.1 = ks := ⟨_, rfl⟩
      rw [hks] at HRd HMM q3
      have HKS : Hid (ks = (at' (vs.map saysN) ro).2.1) := hks.symm
      have HQ3 : Hid (f.wf ∧ ks.length ≤ 4 ∧ (f.len = 0 ∨ f.len = ks.length + 1)) := q3
      have HSZ : Hid (f.sz < 201) := by unfold Hid; omega
      by_cases hr0 : r = ln
      · have hc0 : cnt m' = 0 := by omega
        have HC0 : Hid (cnt m' = 0) := hc0
        have hr1 : ((r : Int) != (ln : Int)) = false := by simp; omega
        have CL1 := c_levels 201 (by omega) f ks _ p w3 HSZ.out HRd.out HQ3.out.1 (len_le4 HQ3.out.2.1 HQ3.out.2.2)
        clear hc hy q1 q2 q3 hml hr HMem hks hc0 hr0
        go_wp2_with fail
        refine CL1.mono ?_
        rintro e w' ⟨⟨n, rfl, hn201, hlv⟩, hq⟩; have hq' := hq.symm; subst hq'; clear hq CL1
        have LV : Hid (LvIs f n) := hlv
        clear hlv
        by_cases hn0 : n = 0
        · have HO : Hid (¬ TG (vs.map saysN) ro) := by
            rintro ⟨ks', f', d, g⟩
            obtain ⟨rfl, _, _⟩ := TG_same HC.out g
            have := (LV.out d).1 g.lev
            omega
          have hn1 : ((n : Int) == 0) = true := by simp; omega
          clear hn0
          go_wp2
          go_ret
          exact ⟨.inl ⟨rfl, HO.out⟩, B3.out⟩
        · have hn1 : ((n : Int) == 0) = false := by simp; omega
          have HL : Hid (lvT f n) := (LV.out n).2 ⟨rfl, by omega⟩
          have CA := c_allKeys 201 (by omega) f ks _ p w3 HSZ.out HRd.out HQ3.out.1 HQ3.out.2.1 (len_le4 HQ3.out.2.1 HQ3.out.2.2)
          have hal := allT_len (ks := ks) HQ3.out.1 HQ3.out.2.1
          have hs9 := HSZ.out
          obtain ⟨K, hK⟩ : ∃ K, allT ks f = K := ⟨_, rfl⟩
          have HK : Hid (allT ks f = K) := hK
          rw [hK] at CA hal HMM
          clear hn0 hK
          go_wp2_with fail
          refine CA.mono ?_
          rintro e w4 ⟨⟨ka, kc, rfl, ho⟩, hb4⟩
          have CK := c_areKeys ka K.length kc K w4 (RdV.own ho) (by omega) HMM.out
          have B4 : Hid (Below w.heap.size w w4) := B3.out.trans (hb4.mono B3.out.size)
          have HRd4 : Hid (RdB w4 (fun g => g < w.heap.size ∨ V2.heap.size ≤ g) p ks f) := HRd.out.below hb4
          clear ho hb4 CA
          go_wp2_with fail
          refine CK.mono ?_
          rintro e w' ⟨⟨b, rfl, hb⟩, hq⟩; have hq' := hq.symm; subst hq'; clear hq CK
          have HBK : Hid (b = true ↔ KOK K) := hb
          clear hb
          cases b
          · have HO : Hid (¬ TG (vs.map saysN) ro) := by
              rintro ⟨ks', f', d, g⟩
              obtain ⟨rfl, _, e⟩ := TG_same HC.out g
              have := HBK.out.2 (by rw [← HK.out, HKS.out, ← e]; exact g.keys)
              cases this
            go_wp2
            go_ret
            exact ⟨.inl ⟨rfl, HO.out⟩, B4.out⟩
          · have CS := c_signed 201 (by omega) f ks _ p w4 HSZ.out HRd4.out HQ3.out.1 HQ3.out.2.1 HQ3.out.2.2
            obtain ⟨sb, hsb⟩ : ∃ b, f.sgB ks 0 = b := ⟨_, rfl⟩
            have HSB : Hid (f.sgB ks 0 = sb) := hsb
            rw [hsb] at CS
            clear hsb
            go_wp2_with fail
            refine CS.mono ?_
            rintro e w5 ⟨rfl, hb5⟩
            have B5 : Hid (Below w.heap.size w w5) := B4.out.trans (hb5.mono B4.out.size)
            have HRd5 : Hid (RdB w5 (fun g => g < w.heap.size ∨ V2.heap.size ≤ g) p ks f) := HRd4.out.below hb5
            clear hb5 CS
            cases sb
            · have HO : Hid (¬ TG (vs.map saysN) ro) := by
                rintro ⟨ks', f', d, g⟩
                obtain ⟨rfl, _, e⟩ := TG_same HC.out g
                have := (Fo.sgB_iff _ _ _).2 g.sig
                rw [e, ← HKS.out, HSB.out] at this
                cases this
              go_wp2
              go_ret
              exact ⟨.inl ⟨rfl, HO.out⟩, B5.out⟩
            · go_wp2
              go_ret
              refine ⟨.inr ⟨p, ks, f, n, _, rfl, ⟨by rw [HLL.out]; exact hlt2, ⟨m', HC.out, HC0.out⟩, HKS.out, HL.out, (Fo.sgB_iff _ _ _).1 HSB.out, by rw [HK.out]; exact HBK.out.1 (by trivial)⟩, HRd5.out⟩, B5.out⟩
      · have HO : Hid (¬ TG (vs.map saysN) ro) := by
          rintro ⟨ks', f', d, g⟩
          have := (TG_same HC.out g).2.1
          omega
        have hr1 : ((r : Int) != (ln : Int)) = true := by simp; omega
        clear hc hy q1 q2 q3 hml hr HMem hks hr0
        go_wp2
        go_ret
        exact ⟨.inl ⟨rfl, HO.out⟩, B3.out⟩
set_option maxRecDepth 100000 in
set_option maxHeartbeats 4000000 in
theorem c_implOK (ro : Int) (la : Option Addr) (ln lc : Nat) (vs : List TNode) (w : World) (hr : RdN w la ln vs) (hn : ln ≤ 1048576) (hf : ∀ i, i < ln → FitN (vs.getD i zeroN)) (hnil : ∀ i, i < ln → (vs.getD i zeroN).ka = none → (vs.getD i zeroN).kc = 0) :
    Calls Try.prog 18 #[.agg #[.int .i64 ro, .slice la ln lc]] w fun e w' => AnsP (TG (vs.map saysN) ro) e ∧ Below w.heap.size w w' := by
  obtain ⟨V, hV⟩ : ∃ Q, w.alloc (.cells #[.int .i64 ro, .slice la ln lc] 27) = Q := ⟨_, rfl⟩
  have bV : Below w.heap.size w V := by rw [← hV]; exact (Below.refl _ _).alloc (Nat.le_refl _) _
  have XV : Hid (Box V w.heap.size 27 #[.int .i64 ro, .slice la ln lc]) := by unfold Hid; rw [← hV]; exact Box.new _ _ _
  have x0 : V.cell? ⟨w.heap.size, 0, none⟩ = some (.int .i64 ro) := XV.out.cell 0
  have x1 : V.cell? ⟨w.heap.size, 1, none⟩ = some (.slice la ln lc) := XV.out.cell 1
  have BV : Hid (Below w.heap.size w V) := bV
  have C := c_rootOf ro la ln lc vs V (hr.below bV) hn hf hnil
  clear hr hf hnil bV
  go_enter Try.func18, Try.ntmps18
  go_wp2_with fail
  refine C.mono ?_
  rintro e w1 ⟨hans, hb1⟩
  have B1 : Hid (Below w.heap.size w w1) := BV.out.trans (hb1.mono BV.out.size)
  clear hb1 C hV x0 x1
  rcases hans with ⟨rfl, hno⟩ | ⟨p, ks, f, d, A, rfl, hg, _⟩
  · have HO : Hid (¬ TG (vs.map saysN) ro) := hno
    clear hno
    go_wp2
    go_ret
    exact ⟨AnsP.no HO.out, B1.out⟩
  · have HO : Hid (TG (vs.map saysN) ro) := ⟨ks, f, d, hg⟩
    clear hg
    go_wp2
    go_ret
    exact ⟨AnsP.yes HO.out, B1.out⟩

end Go.Proofs.Ythnggpjgajkaeaa
