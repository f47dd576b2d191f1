/-
  The specification's walk over a whole tree, and whether a tree is right.
-/
import Derived.Test.YthnggpjgajkaeaaMi
import Derived.Test.YthnggpjgajkaeaaMg
import Derived.Test.YthnggpjgajkaeaaMr
namespace Go.Proofs.Ythnggpjgajkaeaa
open Go Go.RowKit
attribute [local go_sem ↓] Go.wp_at_zero Go.wp_at_succ

def AnsL (L : List ND) (ro : Int) (w : World) (e : Ending) (w' : World) : Prop := ∃ (ya : Option Addr) (n yc : Nat) (K : List ByteArray) (d : Nat) (okb : Bool), e = .returned (.tuple #[.slice ya n yc, .int .i64 d, .bool okb]) ∧ K.length = n ∧ n ≤ 1000 ∧ w'.ownsRow w.heap.size 9 1 (.slice ya n yc) n (K.map Value.string) ∧ (okb = true ↔ TG L ro) ∧ (okb = true → ∃ ks f, TGood L ro ks f d ∧ K = allT ks f) ∧ Below w.heap.size w w'
def WL1 (ro : Int) (xb sb : Nat) (la : Option Addr) (ln lc z : Nat) (w : World) (m : List Bool) (ok0 : Bool) (K : List ByteArray) (ya : Option Addr) (yc : Nat) (iv : Value) (wr : World) : Prop :=
  ∃ (n : Nat) (okb : Bool), n ≤ ln ∧ iv = .int .i64 n ∧ Lk wr xb sb ro la ln lc z m okb K ya yc ∧ Below w.heap.size w wr ∧ (okb = true ↔ ok0 = true ∧ ∀ j, j < n → m.getD j true = true)
def WL2 (ro : Int) (xb sb : Nat) (la : Option Addr) (ln lc z : Nat) (w : World) (m : List Bool) (ok0 : Bool) (K : List ByteArray) (ya : Option Addr) (yc : Nat) (iv : Value) (wr : World) : Prop :=
  ∃ (n : Nat) (okb : Bool), n ≤ K.length ∧ iv = .int .i64 n ∧ Lk wr xb sb ro la ln lc z m okb K ya yc ∧ Below w.heap.size w wr ∧ (okb = true ↔ ok0 = true ∧ KTo K n)
theorem cnt_zero {m : List Bool} : cnt m = 0 ↔ ∀ j, j < m.length → m.getD j true = true := by
  unfold cnt
  rw [List.count_eq_zero]
  constructor
  · intro h j hj
    rw [List.getD_eq_getElem?_getD, List.getElem?_eq_getElem hj]
    cases e : m[j]
    · exact absurd (e ▸ List.getElem_mem hj) h
    · rfl
  · intro h hm
    obtain ⟨j, hj, e⟩ := List.getElem_of_mem hm
    have := h j hj
    rw [List.getD_eq_getElem?_getD, List.getElem?_eq_getElem hj, e] at this
    cases this
theorem ans_l {L : List ND} {ro : Int} {xb sb : Nat} {la : Option Addr} {ln lc z N kb : Nat} {w W w3 w5 : World} {d : Nat} {m' : List Bool} {ok' : Bool} {K' : List ByteArray} {ya' : Option Addr} {yc' yc2 kl : Nat} {b : Bool} {ya : Option Addr} (hL : L.length = ln) (h2 : ln ≤ 200) (R : WRes L ro xb sb la ln lc z N W (List.replicate ln false) ro [] (some ⟨kb, 0, none⟩) d m' ok' K' ya' yc' w3) (hb : b = true ↔ ok' = true ∧ (∀ j, j < ln → m'.getD j true = true) ∧ KOK K') (ho : w5.ownsRow w.heap.size 9 1 (.slice ya kl yc2) kl (K'.map Value.string)) (hkl : K'.length = kl) (h3 : kl ≤ 1000) (hbw : Below w.heap.size w w5) : AnsL L ro w (.returned (.tuple #[.slice ya kl yc2, .int .i64 d, .bool b])) w5 := by
  have key : ∀ f m2 d2, WFine L ro (List.replicate ln false) ro f m2 d2 → (∀ j, j < ln → m2.getD j true = true) → m2.length = ln → KOK (allT (at' L ro).2.1 f) → TGood L ro (at' L ro).2.1 f d2 := fun f m2 d2 hw hm hml hk => ⟨by omega, ⟨m2, by rw [hL]; exact hw.is, cnt_zero.2 fun j hj => hm j (by omega)⟩, rfl, hw.lv, hw.sg, hk⟩
  refine ⟨ya, kl, yc2, K', d, b, rfl, hkl, h3, ho, ⟨fun h => ?_, fun h => ?_⟩, fun h => ?_, hbw⟩
  · obtain ⟨h1, hm, hk⟩ := hb.1 h
    obtain ⟨f, hw, e⟩ := R.yes h1
    rw [List.nil_append] at e
    exact ⟨_, f, d, key f m' d hw hm R.ml (e ▸ hk)⟩
  · obtain ⟨ks, f, d2, g⟩ := h
    obtain ⟨m2, hc, hz⟩ := g.climb
    rw [hL] at hc
    have hr := g.root
    subst hr
    have hw : WFine L ro (List.replicate ln false) ro f m2 d2 := ⟨hc, fun h => absurd rfl h, g.lev, g.sig⟩
    cases h1 : ok'
    · exact absurd hw (R.no h1 _ _ _)
    · obtain ⟨f', hw', e⟩ := R.yes h1
      have h5 := hw'.is
      rw [hc] at h5
      simp only [Option.some.injEq, Prod.mk.injEq] at h5
      obtain ⟨rfl, rfl⟩ := h5
      rw [List.nil_append] at e
      refine hb.2 ⟨h1, fun j hj => cnt_zero.1 hz j (by rw [R.ml]; exact hj), by rw [e]; exact g.keys⟩
  · obtain ⟨h1, hm, hk⟩ := hb.1 h
    obtain ⟨f, hw, e⟩ := R.yes h1
    rw [List.nil_append] at e
    exact ⟨_, f, key f m' d hw hm R.ml (e ▸ hk), e⟩
theorem infoBool : (Try.prog.info? 4).map (fun i => (i.zero, i.size, i.bytes)) = some (some (Value.bool false), 1, 1) := by kernel_rfl
theorem make_seen (n : Nat) (hn : n ≤ 200) (w : World) : (Instr.makeSlice 106 (.int .i64 (n : Int)) (.int .i64 (n : Int))).run Try.prog w = .ok (.slice (some ⟨w.heap.size, 0, none⟩) n n) (w.alloc (.cells (madeCells #[.bool false] n) 4)) := by
  obtain ⟨i0, hi, hz0, hz1, hz2⟩ := info_parts infoBool
  have := run_makeSlice (P := Try.prog) w 106 4 i0 (.bool false) Try.underlying106 hi hz0 .i64 .i64 (n : Int) (n : Int) (by omega) (Int.le_refl _) (by rw [hz1]; omega) (by rw [hz2]; omega) (by omega)
  rw [hz1, Int.toNat_natCast, Nat.mul_one] at this
  exact this
theorem made_seen (n : Nat) : (madeCells #[.bool false] n).toList = (List.replicate n false).map Value.bool := by
  have := toList_madeCells_one (.bool false) n
  rw [List.map_replicate]
  exact this

set_option maxRecDepth 100000 in
set_option maxHeartbeats 40000000 in
theorem c_l09Walk (ro : Int) (la : Option Addr) (ln lc : Nat) (vs : List TNode) (w : World) (hr : RdN w la ln vs) (hn : ln ≤ 1048576) (hf : ∀ i, i < ln → FitN (vs.getD i zeroN)) (hnil : ∀ i, i < ln → (vs.getD i zeroN).ka = none → (vs.getD i zeroN).kc = 0) :
    Calls Try.prog 56 #[.agg #[.int .i64 ro, .slice la ln lc]] w fun e w' => AnsL (vs.map saysN) ro w e w' := by
  have hLl : (vs.map saysN).length = ln := by rw [List.length_map]; exact hr.1
  have HLL : Hid ((vs.map saysN).length = ln) := hLl
  obtain ⟨V, hV⟩ : ∃ Q, w.alloc (.cells #[.int .i64 ro, .slice la ln lc] 27) = Q := ⟨_, rfl⟩
  have bV : Below w.heap.size w V := by rw [← hV]; exact (Below.refl _ _).alloc (Nat.le_refl _) _
  have XV : Hid (Box V w.heap.size 27 #[.int .i64 ro, .slice la ln lc]) := by unfold Hid; rw [← hV]; exact Box.new _ _ _
  have x0 : V.cell? ⟨w.heap.size, 0, none⟩ = some (.int .i64 ro) := XV.out.cell 0
  have x1 : V.cell? ⟨w.heap.size, 1, none⟩ = some (.slice la ln lc) := XV.out.cell 1
  have BV : Hid (Below w.heap.size w V) := bV
  by_cases h2 : 200 < ln
  · have HO : Hid (¬ TG (vs.map saysN) ro) := by rintro ⟨ks, f, d, g⟩; have := g.few; omega
    clear hr hf hnil hLl bV
    go_enter Try.func56, Try.ntmps56
    go_wp2
    go_ret3
    refine ⟨some ⟨V.heap.size, 0, none⟩, 0, 0, [], 0, false, rfl, rfl, by omega, World.ownsRow_lit V #[] 0 BV.out.size (by unfold maxLen; omega) rfl, ⟨fun h => (by cases h), fun h => absurd h HO.out⟩, fun h => (by cases h), BV.out.alloc BV.out.size _⟩
  · have HIN : NodesIn w la ln vs := ⟨hr, by omega, hf, hnil⟩
    have hlt2 : ln ≤ 200 := by omega
    have HIN' : Hid (NodesIn w la ln vs) := HIN
    have hmk := make_seen ln hlt2
    have hwl : w.heap.size < V.heap.size := XV.out.lt
    clear hr hf hnil hLl bV h2
    go_enter Try.func56, Try.ntmps56
    go_wp2_with fail
    go_region
    · obtain ⟨V1, hV1⟩ : ∃ W, V.alloc (.cells (madeCells #[.bool false] ln) 4) = W := ⟨_, rfl⟩
      obtain ⟨V2, hV2⟩ : ∃ W, V1.alloc (.cells #[] 9) = W := ⟨_, rfl⟩
      obtain ⟨V3, hV3⟩ : ∃ W, V2.alloc (.cells #[.int .i64 ro, .slice la ln lc, .slice (some ⟨V.heap.size, 0, none⟩) ln ln, .bool true, .slice (some ⟨V.heap.size + 1, 0, none⟩) 0 0] 108) = W := ⟨_, rfl⟩
      have s1 : V1.heap.size = V.heap.size + 1 := by rw [← hV1]; simp
      have s2 : V2.heap.size = V.heap.size + 1 + 1 := by rw [← hV2]; simp [s1]
      have b1 : Below V.heap.size V V1 := by rw [← hV1]; exact (Below.refl _ _).alloc (Nat.le_refl _) _
      have b2 : Below V1.heap.size V1 V2 := by rw [← hV2]; exact (Below.refl _ _).alloc (Nat.le_refl _) _
      have b3 : Below V2.heap.size V2 V3 := by rw [← hV3]; exact (Below.refl _ _).alloc (Nat.le_refl _) _
      have hzV := BV.out.size
      have q1 : V1.ownsRow w.heap.size 4 1 (.slice (some ⟨V.heap.size, 0, none⟩) ln ln) ln ((List.replicate ln false).map Value.bool) := by rw [← hV1, ← made_seen]; exact World.ownsRow_lit V _ _ hzV (by unfold maxLen; omega) (by simp [size_madeCells])
      have q2 : V2.ownsRow w.heap.size 9 1 (.slice (some ⟨V.heap.size + 1, 0, none⟩) 0 0) 0 [] := by rw [← hV2, ← s1]; exact World.ownsRow_lit V1 _ _ (by omega) (by unfold maxLen; omega) (by simp [])
      have LW0 : Lk V3 (V.heap.size + 1 + 1) (V.heap.size) ro la ln lc w.heap.size (List.replicate ln false) true [] (some ⟨V.heap.size + 1, 0, none⟩) 0 := ⟨by rw [← hV3, ← s2]; exact Box.new _ _ _, own_below (own_below q1 b2) b3, own_below q2 b3, by omega, fun g e => by cases e; dsimp only; omega, by omega⟩
      have BW0 : Below w.heap.size w V3 := BV.out.trans ((b1.trans ((b2.trans (b3.mono b2.size)).mono b1.size)).mono BV.out.size)
      have PW0 : Box V3 w.heap.size 27 #[.int .i64 ro, .slice la ln lc] := ((XV.out.belowS b1).belowS b2).belowS b3
      rw [hV1, hV2, hV3]
      obtain ⟨W, hW⟩ : ∃ W, V3.drew = W := ⟨_, rfl⟩
      rw [hW]
      have LW1 : Lk W (V.heap.size + 1 + 1) (V.heap.size) ro la ln lc w.heap.size (List.replicate ln false) true [] (some ⟨V.heap.size + 1, 0, none⟩) 0 := by rw [← hW]; exact LW0.drew
      have BW : Hid (Below w.heap.size w W) := by unfold Hid; rw [← hW]; exact BW0.drew
      have PW : Hid (Box W w.heap.size 27 #[.int .i64 ro, .slice la ln lc]) := by unfold Hid; rw [← hW]; exact PW0
      clear hV1 hV2 hV3 hW s1 s2 b1 b2 b3 q1 q2 LW0 BW0 PW0 hmk
      generalize V.heap.size + 1 + 1 = X at *
      generalize V.heap.size + 1 = KB at *
      generalize V.heap.size = SB at *
      have LW : Hid (Lk W X SB ro la ln lc w.heap.size (List.replicate ln false) true [] (some ⟨KB, 0, none⟩) 0) := LW1
      have d0 : W.cell? ⟨w.heap.size, 0, none⟩ = some (.int .i64 ro) := PW.out.cell 0
      have CC := c_walk w ro la ln lc vs X SB HIN'.out (ln + 1) (by omega) (List.replicate ln false) ro [] (some ⟨KB, 0, none⟩) 0 W (by rw [cnt_rep]; omega) (by simp) BW.out LW1 (by rw [cnt_rep]; simp) (.inl rfl)
      clear LW1 x0 x1 hV HIN
      go_wp2_with fail
      refine CC.mono ?_
      intro e w3 hans
      obtain ⟨d, m', ok', K', ya', yc', rfl, R⟩ := hans
      have HR : Hid (WRes (vs.map saysN) ro X SB la ln lc w.heap.size (ln + 1) W (List.replicate ln false) ro [] (some ⟨KB, 0, none⟩) d m' ok' K' ya' yc' w3) := R
      have hdN : d ≤ ln + 1 := R.dN
      have hk1 : K'.length ≤ 1000 := by have := R.kb; omega
      have hsd : SB < w3.heap.size := R.lk.sz.2.2.1
      have BZ : Hid (Below w.heap.size w w3) := BW.out.trans (LW.out.belowZ R.fr BW.out.size)
      have HML : Hid (m'.length = ln) := R.ml
      have HSZ : Hid (ok' = true → ∀ i, (K'.getD i zS).size ≤ 1048576) := fun h i => by
        obtain ⟨f, hw, e⟩ := R.yes h
        rw [List.nil_append] at e
        have hm := C1_mem (fun s => s.size ≤ 1048576) (at_fit HIN'.out) hw.is
        rw [List.getD_eq_getElem?_getD]
        by_cases hi : i < K'.length
        · rw [List.getElem?_eq_getElem hi]; exact hm _ (by rw [← e]; exact List.getElem_mem hi)
        · rw [List.getElem?_eq_none (by omega)]; exact Nat.zero_le _
      clear R CC
      go_wp2
      go_loopw [7] (fun i wr => WL1 ro X SB la ln lc w.heap.size w m' ok' K' ya' yc' i wr) (fun i _ => ln - (intOf i).toNat)
      case atStart => exact ⟨0, ok', by omega, rfl, HR.out.lk, BZ.out, ⟨fun h => ⟨h, fun j hj => absurd hj (by omega)⟩, fun h => h.1⟩⟩
      case round =>
        obtain ⟨n, okb, hn, rfl, lk, bz, hok⟩ := hrel
        have LK : Hid (Lk wr X SB ro la ln lc w.heap.size m' okb K' ya' yc') := lk
        have BB : Hid (Below w.heap.size w wr) := bz
        have HOK : Hid (okb = true ↔ ok' = true ∧ ∀ j, j < n → m'.getD j true = true) := hok
        have c2 : wr.cell? ⟨X, 2, none⟩ = some (.slice (some ⟨SB, 0, none⟩) ln ln) := lk.box.cell 2
        have c3 : wr.cell? ⟨X, 3, none⟩ = some (.bool okb) := lk.box.cell 3
        have t3 := lk.box.thaw 3
        clear lk bz hok
        by_cases hlt : n < ln
        · obtain ⟨s1, _⟩ := LK.out.seenAt hlt HML.out
          cases okb
          · have E : Hid (WL1 ro X SB la ln lc w.heap.size w m' ok' K' ya' yc' (.int .i64 ((n + 1 : Nat) : Int)) (wr.setCell ⟨X, 3, none⟩ (.bool false))) := ⟨n + 1, false, by omega, rfl, LK.out.setok false, BB.out.setCell LK.out.xz _, ⟨fun h => (by cases h), fun h => (by have := HOK.out.2 ⟨h.1, fun j hj => h.2 j (by omega)⟩; cases this)⟩⟩
            go_wp2
            go_roundw
            case rel => exact E.out
            case measure => simp [intOf]; omega
          · obtain ⟨mb, hmb⟩ : ∃ b, m'.getD n true = b := ⟨_, rfl⟩
            rw [hmb] at s1
            have HMB : Hid (m'.getD n true = mb) := hmb
            have E : Hid (WL1 ro X SB la ln lc w.heap.size w m' ok' K' ya' yc' (.int .i64 ((n + 1 : Nat) : Int)) (wr.setCell ⟨X, 3, none⟩ (.bool mb))) := ⟨n + 1, mb, by omega, rfl, LK.out.setok mb, BB.out.setCell LK.out.xz _, ⟨fun h => ⟨(HOK.out.1 (by trivial)).1, fun j hj => by
                by_cases e : j = n
                · subst e; rw [HMB.out]; exact h
                · exact (HOK.out.1 (by trivial)).2 j (by omega)⟩, fun h => by rw [← HMB.out]; exact h.2 n (by omega)⟩⟩
            clear hmb
            go_wp2
            go_roundw
            case rel => exact E.out
            case measure => simp [intOf]; omega
        · have e : n = ln := by omega
          subst e
          obtain ⟨kl, hkl⟩ : ∃ l, K'.length = l := ⟨_, rfl⟩
          have HKL : Hid (K'.length = kl) := hkl
          rw [hkl] at hk1
          obtain ⟨okA, hokA⟩ : ∃ b, b = okb := ⟨_, rfl⟩
          have HOA : Hid (okA = true ↔ ok' = true ∧ ∀ j, j < n → m'.getD j true = true) := by unfold Hid; rw [hokA]; exact HOK.out
          have LA : Hid (Lk wr X SB ro la n lc w.heap.size m' okA K' ya' yc') := by unfold Hid; rw [hokA]; exact LK.out
          clear hkl hokA HOK LK c3 t3
          go_wp2
          clear c2
          rename World => w4
          go_loopw [8] (fun i wr => WL2 ro X SB la n lc w.heap.size w m' okA K' ya' yc' i wr) (fun i _ => kl - (intOf i).toNat)
          case atStart => exact ⟨0, okA, by omega, rfl, LA.out, BB.out, ⟨fun h => ⟨h, KTo.zero _⟩, fun h => h.1⟩⟩
          case round =>
            obtain ⟨i, okb, hi, rfl, lk, bz, hok⟩ := hrel
            rw [HKL.out] at hi
            have LK : Hid (Lk wr X SB ro la n lc w.heap.size m' okb K' ya' yc') := lk
            have BB : Hid (Below w.heap.size w wr) := bz
            have HOK : Hid (okb = true ↔ okA = true ∧ KTo K' i) := hok
            have c3 : wr.cell? ⟨X, 3, none⟩ = some (.bool okb) := lk.box.cell 3
            have c4 : wr.cell? ⟨X, 4, none⟩ = some (.slice ya' kl yc') := by have := lk.box.cell 4; rw [HKL.out] at this; exact this
            clear lk bz hok
            by_cases hlt : i < kl
            · obtain ⟨yb, yo, hya, hyl, hyc⟩ := (RdV.own LK.out.keys).2 (by rw [HKL.out]; omega)
              subst hya
              obtain ⟨z, hz⟩ : ∃ z, K'.getD i zS = z := ⟨_, rfl⟩
              have HZ : Hid (K'.getD i zS = z) := hz
              have hck : wr.cell? ⟨yb, yo + i, none⟩ = some (.string z) := by rw [hyc i (by rw [HKL.out]; exact hlt), ← hz]; exact map_get _ _ _ _ (by rw [HKL.out]; exact hlt)
              have o3 : ∀ o : Out wr, o.y.cell? ⟨X, 3, none⟩ = some (.bool okb) := fun o => q_cell c3 o
              have o4 : ∀ o : Out wr, o.y.cell? ⟨X, 4, none⟩ = some (.slice (some ⟨yb, yo, none⟩) kl yc') := fun o => q_cell c4 o
              have o5 : ∀ o : Out wr, o.y.cell? ⟨yb, yo + i, none⟩ = some (.string z) := fun o => q_cell hck o
              have g1 : (0 : Int) ≤ (i : Int) := by omega
              have g2 : (i : Int) < (kl : Int) := by omega
              have NXT : Hid (∀ (b : Bool) (w5 : World), Below wr.heap.size wr w5 → (b = true ↔ okA = true ∧ KTo K' (i + 1)) → WL2 ro X SB la n lc w.heap.size w m' okA K' (some ⟨yb, yo, none⟩) yc' (.int .i64 ((i + 1 : Nat) : Int)) (w5.setCell ⟨X, 3, none⟩ (.bool b))) := fun b w5 hb h => ⟨i + 1, b, by rw [HKL.out]; omega, rfl, (LK.out.below hb).setok b, (BB.out.trans (hb.mono BB.out.size)).setCell LK.out.xz _, h⟩
              have STO : Hid (∀ w5 : World, Below wr.heap.size wr w5 → (∃ u, w5.cell? ⟨X, 3, none⟩ = some u) ∧ w5.frozen? ⟨X, 3, none⟩ = false) := fun w5 hb => ⟨⟨_, (LK.out.below hb).box.cell 3⟩, (LK.out.below hb).box.thaw 3⟩
              cases okb
              · have HB2 : Hid ((false : Bool) = true ↔ okA = true ∧ KTo K' (i + 1)) := ⟨fun h => (by cases h), fun h => (by have := HOK.out.2 ⟨h.1, ⟨fun j hj => h.2.1 j (by omega), fun j h0 hj => h.2.2 j h0 (by omega)⟩⟩; cases this)⟩
                clear hyc hz hck
                go_wp2_with fail
                haveI nonE := Out.some wr
                refine region_store (os := ?k1xos) ?k1xh1 (by kernel_rfl) ?k1xh3 (by kernel_rfl) ?k1xh5 ?k1xh6 ?k1xh7 ?k1xh8
                case k1xh1 => exact rfl
                case k1xh3 => kernel_rfl
                case k1xh5 => kernel_rfl
                case k1xh6 => rfl
                case k1xh7 => rfl
                simp only [lastNo, noOp, List.getLast_cons_cons, List.getLast_singleton, List.dropLast_cons_cons, List.dropLast_singleton, List.cons_append, List.nil_append]
                repeat (go_big_quiet_step (fail))
                refine wpQuiet_nil ?_
                rintro w5 ⟨⟨y', hb3⟩, hy⟩
                have hy' : w5 = y' := hy
                clear hy
                subst hy'
                obtain ⟨⟨su, sc⟩, sf⟩ := STO.out _ hb3
                have E := NXT.out false _ hb3 (by first | exact HB2.out | simpa using HB2.out)
                have HE : Hid (WL2 ro X SB la n lc w.heap.size w m' okA K' (some ⟨yb, yo, none⟩) yc' (.int .i64 ((i + 1 : Nat) : Int)) (w5.setCell ⟨X, 3, none⟩ (.bool false))) := E
                clear hb3 E o3 o4 o5 NXT STO
                go_wp2
                go_roundw
                case rel => exact HE.out
                case measure => simp [intOf]; omega
              · cases hkk : kOK z
                · have HKK : Hid (kOK z = false) := hkk
                  have HB2 : Hid ((false : Bool) = true ↔ okA = true ∧ KTo K' (i + 1)) := ⟨fun h => (by cases h), fun h => (by have := h.2.1 i (by omega); rw [HZ.out, HKK.out] at this; cases this)⟩
                  have C77 : Hid (∀ o : Out wr, Calls Try.prog 77 #[.string z] o.y fun e y => e = .returned (.bool false) ∧ y = o.y) := fun o => by have := c_l09Key z o.y (by rw [← HZ.out]; exact HSZ.out (HOA.out.1 (HOK.out.1 (by trivial)).1).1 i); rw [HKK.out] at this; exact this
                  clear hyc hz hck hkk
                  go_wp2_with fail
                  haveI nonE := Out.some wr
                  refine region_store (os := ?k2xos) ?k2xh1 (by kernel_rfl) ?k2xh3 (by kernel_rfl) ?k2xh5 ?k2xh6 ?k2xh7 ?k2xh8
                  case k2xh1 => exact rfl
                  case k2xh3 => kernel_rfl
                  case k2xh5 => kernel_rfl
                  case k2xh6 => rfl
                  case k2xh7 => rfl
                  simp only [lastNo, noOp, List.getLast_cons_cons, List.getLast_singleton, List.dropLast_cons_cons, List.dropLast_singleton, List.cons_append, List.nil_append]
                  repeat (go_big_quiet_step ((exact q_same (C77.out _))))
                  refine wpQuiet_nil ?_
                  rintro w5 ⟨⟨y', hb3⟩, hy⟩
                  have hy' : w5 = y' := hy
                  clear hy
                  subst hy'
                  obtain ⟨⟨su, sc⟩, sf⟩ := STO.out _ hb3
                  have E := NXT.out false _ hb3 (by first | exact HB2.out | simpa using HB2.out)
                  have HE : Hid (WL2 ro X SB la n lc w.heap.size w m' okA K' (some ⟨yb, yo, none⟩) yc' (.int .i64 ((i + 1 : Nat) : Int)) (w5.setCell ⟨X, 3, none⟩ (.bool false))) := E
                  clear hb3 E o3 o4 o5 NXT STO C77
                  go_wp2
                  go_roundw
                  case rel => exact HE.out
                  case measure => simp [intOf]; omega
                · have HKK : Hid (kOK z = true) := hkk
                  have C77 : Hid (∀ o : Out wr, Calls Try.prog 77 #[.string z] o.y fun e y => e = .returned (.bool true) ∧ y = o.y) := fun o => by have := c_l09Key z o.y (by rw [← HZ.out]; exact HSZ.out (HOA.out.1 (HOK.out.1 (by trivial)).1).1 i); rw [HKK.out] at this; exact this
                  by_cases h0 : 0 < i
                  · obtain ⟨y, hy⟩ : ∃ y, K'.getD (i - 1) zS = y := ⟨_, rfl⟩
                    have HY : Hid (K'.getD (i - 1) zS = y) := hy
                    have hcy : wr.cell? ⟨yb, yo + (i - 1), none⟩ = some (.string y) := by rw [hyc (i - 1) (by rw [HKL.out]; omega), ← hy]; exact map_get _ _ _ _ (by rw [HKL.out]; omega)
                    have o6 : ∀ o : Out wr, o.y.cell? ⟨yb, yo + (i - 1), none⟩ = some (.string y) := fun o => q_cell hcy o
                    have q0 : ((i : Int) == 0) = false := by simp; omega
                    have w1 : IntKind.i64.wrap ((i : Int) - 1) = (i : Int) - 1 := by rw [IntKind.wrap_i64]; omega
                    have w2 : ((i : Int) - 1).toNat = i - 1 := by omega
                    have w3' : (0 : Int) ≤ (i : Int) - 1 := by omega
                    have w4' : (i : Int) - 1 < (kl : Int) := by omega
                    have H0 : Hid (0 < i) := h0
                    obtain ⟨lb, hlb⟩ : ∃ b, Op.bytesLess y.toList z.toList = b := ⟨_, rfl⟩
                    have HLB : Hid (Op.bytesLess y.toList z.toList = lb) := hlb
                    have HB2 : Hid (lb = true ↔ okA = true ∧ KTo K' (i + 1)) := ⟨fun h => ⟨(HOK.out.1 (by trivial)).1, (HOK.out.1 (by trivial)).2.step (by rw [HZ.out]; exact HKK.out) (fun _ => by rw [HZ.out, HY.out, HLB.out]; exact h)⟩, fun h => by have := h.2.2 i H0.out (by omega); rw [HZ.out, HY.out, HLB.out] at this; exact this⟩
                    clear hyc hz hy hck hcy hkk
                    go_wp2_with fail
                    haveI nonE := Out.some wr
                    refine region_store (os := ?k3xos) ?k3xh1 (by kernel_rfl) ?k3xh3 (by kernel_rfl) ?k3xh5 ?k3xh6 ?k3xh7 ?k3xh8
                    case k3xh1 => exact rfl
                    case k3xh3 => kernel_rfl
                    case k3xh5 => kernel_rfl
                    case k3xh6 => rfl
                    case k3xh7 => rfl
                    simp only [lastNo, noOp, List.getLast_cons_cons, List.getLast_singleton, List.dropLast_cons_cons, List.dropLast_singleton, List.cons_append, List.nil_append]
                    repeat (go_big_quiet_step ((exact q_same (C77.out _))))
                    refine wpQuiet_nil ?_
                    rintro w5 ⟨⟨y', hb3⟩, hy⟩
                    have hy' : w5 = y' := hy
                    clear hy
                    subst hy'
                    obtain ⟨⟨su, sc⟩, sf⟩ := STO.out _ hb3
                    have E := NXT.out lb _ hb3 (by first | exact HB2.out | simpa using HB2.out)
                    have HE : Hid (WL2 ro X SB la n lc w.heap.size w m' okA K' (some ⟨yb, yo, none⟩) yc' (.int .i64 ((i + 1 : Nat) : Int)) (w5.setCell ⟨X, 3, none⟩ (.bool lb))) := E
                    clear hb3 E o3 o4 o5 NXT STO o6 C77
                    go_wp2
                    go_roundw
                    case rel => exact HE.out
                    case measure => simp [intOf]; omega
                  · obtain rfl : i = 0 := by omega
                    have HB2 : Hid ((true : Bool) = true ↔ okA = true ∧ KTo K' (0 + 1)) := ⟨fun _ => ⟨(HOK.out.1 (by trivial)).1, (HOK.out.1 (by trivial)).2.step (by rw [HZ.out]; exact HKK.out) (fun h => absurd h (by omega))⟩, fun _ => rfl⟩
                    rw [Nat.add_zero] at o5
                    clear hyc hz hck hkk
                    go_wp2_with fail
                    haveI nonE := Out.some wr
                    refine region_store (os := ?k4xos) ?k4xh1 (by kernel_rfl) ?k4xh3 (by kernel_rfl) ?k4xh5 ?k4xh6 ?k4xh7 ?k4xh8
                    case k4xh1 => exact rfl
                    case k4xh3 => kernel_rfl
                    case k4xh5 => kernel_rfl
                    case k4xh6 => rfl
                    case k4xh7 => rfl
                    simp only [lastNo, noOp, List.getLast_cons_cons, List.getLast_singleton, List.dropLast_cons_cons, List.dropLast_singleton, List.cons_append, List.nil_append]
                    repeat (go_big_quiet_step ((exact q_same (C77.out _))))
                    refine wpQuiet_nil ?_
                    rintro w5 ⟨⟨y', hb3⟩, hy⟩
                    have hy' : w5 = y' := hy
                    clear hy
                    subst hy'
                    obtain ⟨⟨su, sc⟩, sf⟩ := STO.out _ hb3
                    have E := NXT.out true _ hb3 (by first | exact HB2.out | simpa using HB2.out)
                    have HE : Hid (WL2 ro X SB la n lc w.heap.size w m' okA K' (some ⟨yb, yo, none⟩) yc' (.int .i64 ((0 + 1 : Nat) : Int)) (w5.setCell ⟨X, 3, none⟩ (.bool true))) := E
                    clear hb3 E o3 o4 o5 NXT STO C77
                    go_wp2
                    go_roundw
                    case rel => exact HE.out
                    case measure => simp [intOf]; omega
            · have e : i = kl := by omega
              subst e
              have ANS : Hid (∀ w5 : World, Below wr.heap.size wr w5 → AnsL (vs.map saysN) ro w (.returned (.tuple #[.slice ya' i yc', .int .i64 d, .bool (okb && decide ((i : Int) ≤ 60))])) w5) := fun w5 hb => by
                have hkp : (okb && decide ((i : Int) ≤ 60)) = true ↔ ok' = true ∧ (∀ j, j < n → m'.getD j true = true) ∧ KOK K' := by
                  rw [Bool.and_eq_true, decide_eq_true_eq, HOK.out, HOA.out]
                  constructor
                  · rintro ⟨⟨⟨h1, h2⟩, h3⟩, h4⟩
                    exact ⟨h1, h2, (KOK_iff (by rw [HKL.out]; exact h3)).2 (by rw [HKL.out]; omega)⟩
                  · rintro ⟨h1, h2, h3⟩
                    have := h3.1
                    rw [HKL.out] at this
                    exact ⟨⟨⟨h1, h2⟩, by have := h3.2; rw [HKL.out] at this; exact this⟩, by omega⟩
                exact ans_l HLL.out hlt2 HR.out hkp (by have := (LK.out.below hb).keys; rw [HKL.out] at this; exact this) HKL.out (by omega) (BB.out.trans (hb.mono BB.out.size))
              clear HR
              cases okb
              · go_wp2_with fail
                haveI nonE := Out.some wr
                have o3 : ∀ o : Out wr, o.y.cell? ⟨X, 3, none⟩ = some (.bool false) := fun o => q_cell c3 o
                have o4 : ∀ o : Out wr, o.y.cell? ⟨X, 4, none⟩ = some (.slice ya' i yc') := fun o => q_cell c4 o
                refine q_begin (by kernel_rfl) (by kernel_rfl) ?_
                repeat (go_big_quiet_step (fail))
                refine wpQuiet_nil ?_
                rintro w5 ⟨⟨y', hb3⟩, hy⟩
                have hy' : w5 = y' := hy
                clear hy
                subst hy'
                go_wp2
                go_ret3
                exact ANS.out _ hb3
              · have h60 : decide ((i : Int) ≤ 60) = decide ((i : Int) ≤ 60) := rfl
                go_wp2_with fail
                haveI nonE := Out.some wr
                have o3 : ∀ o : Out wr, o.y.cell? ⟨X, 3, none⟩ = some (.bool true) := fun o => q_cell c3 o
                have o4 : ∀ o : Out wr, o.y.cell? ⟨X, 4, none⟩ = some (.slice ya' i yc') := fun o => q_cell c4 o
                refine q_begin (by kernel_rfl) (by kernel_rfl) ?_
                repeat (go_big_quiet_step (fail))
                refine wpQuiet_nil ?_
                rintro w5 ⟨⟨y', hb3⟩, hy⟩
                have hy' : w5 = y' := hy
                clear hy
                subst hy'
                go_wp2
                go_ret3
                exact ANS.out _ hb3
    · obtain ⟨V1, hV1⟩ : ∃ W, V.alloc (.cells #[] 9) = W := ⟨_, rfl⟩
      obtain ⟨V2, hV2⟩ : ∃ W, V1.alloc (.cells (madeCells #[.bool false] ln) 4) = W := ⟨_, rfl⟩
      obtain ⟨V3, hV3⟩ : ∃ W, V2.alloc (.cells #[.int .i64 ro, .slice la ln lc, .slice (some ⟨V.heap.size + 1, 0, none⟩) ln ln, .bool true, .slice (some ⟨V.heap.size, 0, none⟩) 0 0] 108) = W := ⟨_, rfl⟩
      have s1 : V1.heap.size = V.heap.size + 1 := by rw [← hV1]; simp
      have s2 : V2.heap.size = V.heap.size + 1 + 1 := by rw [← hV2]; simp [s1]
      have b1 : Below V.heap.size V V1 := by rw [← hV1]; exact (Below.refl _ _).alloc (Nat.le_refl _) _
      have b2 : Below V1.heap.size V1 V2 := by rw [← hV2]; exact (Below.refl _ _).alloc (Nat.le_refl _) _
      have b3 : Below V2.heap.size V2 V3 := by rw [← hV3]; exact (Below.refl _ _).alloc (Nat.le_refl _) _
      have hzV := BV.out.size
      have q1 : V1.ownsRow w.heap.size 9 1 (.slice (some ⟨V.heap.size, 0, none⟩) 0 0) 0 [] := by rw [← hV1]; exact World.ownsRow_lit V _ _ hzV (by unfold maxLen; omega) (by simp [])
      have q2 : V2.ownsRow w.heap.size 4 1 (.slice (some ⟨V.heap.size + 1, 0, none⟩) ln ln) ln ((List.replicate ln false).map Value.bool) := by rw [← hV2, ← s1, ← made_seen]; exact World.ownsRow_lit V1 _ _ (by omega) (by unfold maxLen; omega) (by simp [size_madeCells])
      have LW0 : Lk V3 (V.heap.size + 1 + 1) (V.heap.size + 1) ro la ln lc w.heap.size (List.replicate ln false) true [] (some ⟨V.heap.size, 0, none⟩) 0 := ⟨by rw [← hV3, ← s2]; exact Box.new _ _ _, own_below q2 b3, own_below (own_below q1 b2) b3, by omega, fun g e => by cases e; dsimp only; omega, by omega⟩
      have BW0 : Below w.heap.size w V3 := BV.out.trans ((b1.trans ((b2.trans (b3.mono b2.size)).mono b1.size)).mono BV.out.size)
      have PW0 : Box V3 w.heap.size 27 #[.int .i64 ro, .slice la ln lc] := ((XV.out.belowS b1).belowS b2).belowS b3
      rw [hV1, hV2, hV3]
      obtain ⟨W, hW⟩ : ∃ W, V3.drew = W := ⟨_, rfl⟩
      rw [hW]
      have LW1 : Lk W (V.heap.size + 1 + 1) (V.heap.size + 1) ro la ln lc w.heap.size (List.replicate ln false) true [] (some ⟨V.heap.size, 0, none⟩) 0 := by rw [← hW]; exact LW0.drew
      have BW : Hid (Below w.heap.size w W) := by unfold Hid; rw [← hW]; exact BW0.drew
      have PW : Hid (Box W w.heap.size 27 #[.int .i64 ro, .slice la ln lc]) := by unfold Hid; rw [← hW]; exact PW0
      clear hV1 hV2 hV3 hW s1 s2 b1 b2 b3 q1 q2 LW0 BW0 PW0 hmk
      generalize V.heap.size + 1 + 1 = X at *
      generalize V.heap.size + 1 = SB at *
      generalize V.heap.size = KB at *
      have LW : Hid (Lk W X SB ro la ln lc w.heap.size (List.replicate ln false) true [] (some ⟨KB, 0, none⟩) 0) := LW1
      have d0 : W.cell? ⟨w.heap.size, 0, none⟩ = some (.int .i64 ro) := PW.out.cell 0
      have CC := c_walk w ro la ln lc vs X SB HIN'.out (ln + 1) (by omega) (List.replicate ln false) ro [] (some ⟨KB, 0, none⟩) 0 W (by rw [cnt_rep]; omega) (by simp) BW.out LW1 (by rw [cnt_rep]; simp) (.inl rfl)
      clear LW1 x0 x1 hV HIN
      go_wp2_with fail
      refine CC.mono ?_
      intro e w3 hans
      obtain ⟨d, m', ok', K', ya', yc', rfl, R⟩ := hans
      have HR : Hid (WRes (vs.map saysN) ro X SB la ln lc w.heap.size (ln + 1) W (List.replicate ln false) ro [] (some ⟨KB, 0, none⟩) d m' ok' K' ya' yc' w3) := R
      have hdN : d ≤ ln + 1 := R.dN
      have hk1 : K'.length ≤ 1000 := by have := R.kb; omega
      have hsd : SB < w3.heap.size := R.lk.sz.2.2.1
      have BZ : Hid (Below w.heap.size w w3) := BW.out.trans (LW.out.belowZ R.fr BW.out.size)
      have HML : Hid (m'.length = ln) := R.ml
      have HSZ : Hid (ok' = true → ∀ i, (K'.getD i zS).size ≤ 1048576) := fun h i => by
        obtain ⟨f, hw, e⟩ := R.yes h
        rw [List.nil_append] at e
        have hm := C1_mem (fun s => s.size ≤ 1048576) (at_fit HIN'.out) hw.is
        rw [List.getD_eq_getElem?_getD]
        by_cases hi : i < K'.length
        · rw [List.getElem?_eq_getElem hi]; exact hm _ (by rw [← e]; exact List.getElem_mem hi)
        · rw [List.getElem?_eq_none (by omega)]; exact Nat.zero_le _
      clear R CC
      go_wp2
      go_loopw [7] (fun i wr => WL1 ro X SB la ln lc w.heap.size w m' ok' K' ya' yc' i wr) (fun i _ => ln - (intOf i).toNat)
      case atStart => exact ⟨0, ok', by omega, rfl, HR.out.lk, BZ.out, ⟨fun h => ⟨h, fun j hj => absurd hj (by omega)⟩, fun h => h.1⟩⟩
      case round =>
        obtain ⟨n, okb, hn, rfl, lk, bz, hok⟩ := hrel
        have LK : Hid (Lk wr X SB ro la ln lc w.heap.size m' okb K' ya' yc') := lk
        have BB : Hid (Below w.heap.size w wr) := bz
        have HOK : Hid (okb = true ↔ ok' = true ∧ ∀ j, j < n → m'.getD j true = true) := hok
        have c2 : wr.cell? ⟨X, 2, none⟩ = some (.slice (some ⟨SB, 0, none⟩) ln ln) := lk.box.cell 2
        have c3 : wr.cell? ⟨X, 3, none⟩ = some (.bool okb) := lk.box.cell 3
        have t3 := lk.box.thaw 3
        clear lk bz hok
        by_cases hlt : n < ln
        · obtain ⟨s1, _⟩ := LK.out.seenAt hlt HML.out
          cases okb
          · have E : Hid (WL1 ro X SB la ln lc w.heap.size w m' ok' K' ya' yc' (.int .i64 ((n + 1 : Nat) : Int)) (wr.setCell ⟨X, 3, none⟩ (.bool false))) := ⟨n + 1, false, by omega, rfl, LK.out.setok false, BB.out.setCell LK.out.xz _, ⟨fun h => (by cases h), fun h => (by have := HOK.out.2 ⟨h.1, fun j hj => h.2 j (by omega)⟩; cases this)⟩⟩
            go_wp2
            go_roundw
            case rel => exact E.out
            case measure => simp [intOf]; omega
          · obtain ⟨mb, hmb⟩ : ∃ b, m'.getD n true = b := ⟨_, rfl⟩
            rw [hmb] at s1
            have HMB : Hid (m'.getD n true = mb) := hmb
            have E : Hid (WL1 ro X SB la ln lc w.heap.size w m' ok' K' ya' yc' (.int .i64 ((n + 1 : Nat) : Int)) (wr.setCell ⟨X, 3, none⟩ (.bool mb))) := ⟨n + 1, mb, by omega, rfl, LK.out.setok mb, BB.out.setCell LK.out.xz _, ⟨fun h => ⟨(HOK.out.1 (by trivial)).1, fun j hj => by
                by_cases e : j = n
                · subst e; rw [HMB.out]; exact h
                · exact (HOK.out.1 (by trivial)).2 j (by omega)⟩, fun h => by rw [← HMB.out]; exact h.2 n (by omega)⟩⟩
            clear hmb
            go_wp2
            go_roundw
            case rel => exact E.out
            case measure => simp [intOf]; omega
        · have e : n = ln := by omega
          subst e
          obtain ⟨kl, hkl⟩ : ∃ l, K'.length = l := ⟨_, rfl⟩
          have HKL : Hid (K'.length = kl) := hkl
          rw [hkl] at hk1
          obtain ⟨okA, hokA⟩ : ∃ b, b = okb := ⟨_, rfl⟩
          have HOA : Hid (okA = true ↔ ok' = true ∧ ∀ j, j < n → m'.getD j true = true) := by unfold Hid; rw [hokA]; exact HOK.out
          have LA : Hid (Lk wr X SB ro la n lc w.heap.size m' okA K' ya' yc') := by unfold Hid; rw [hokA]; exact LK.out
          clear hkl hokA HOK LK c3 t3
          go_wp2
          clear c2
          rename World => w4
          go_loopw [8] (fun i wr => WL2 ro X SB la n lc w.heap.size w m' okA K' ya' yc' i wr) (fun i _ => kl - (intOf i).toNat)
          case atStart => exact ⟨0, okA, by omega, rfl, LA.out, BB.out, ⟨fun h => ⟨h, KTo.zero _⟩, fun h => h.1⟩⟩
          case round =>
            obtain ⟨i, okb, hi, rfl, lk, bz, hok⟩ := hrel
            rw [HKL.out] at hi
            have LK : Hid (Lk wr X SB ro la n lc w.heap.size m' okb K' ya' yc') := lk
            have BB : Hid (Below w.heap.size w wr) := bz
            have HOK : Hid (okb = true ↔ okA = true ∧ KTo K' i) := hok
            have c3 : wr.cell? ⟨X, 3, none⟩ = some (.bool okb) := lk.box.cell 3
            have c4 : wr.cell? ⟨X, 4, none⟩ = some (.slice ya' kl yc') := by have := lk.box.cell 4; rw [HKL.out] at this; exact this
            clear lk bz hok
            by_cases hlt : i < kl
            · obtain ⟨yb, yo, hya, hyl, hyc⟩ := (RdV.own LK.out.keys).2 (by rw [HKL.out]; omega)
              subst hya
              obtain ⟨z, hz⟩ : ∃ z, K'.getD i zS = z := ⟨_, rfl⟩
              have HZ : Hid (K'.getD i zS = z) := hz
              have hck : wr.cell? ⟨yb, yo + i, none⟩ = some (.string z) := by rw [hyc i (by rw [HKL.out]; exact hlt), ← hz]; exact map_get _ _ _ _ (by rw [HKL.out]; exact hlt)
              have o3 : ∀ o : Out wr, o.y.cell? ⟨X, 3, none⟩ = some (.bool okb) := fun o => q_cell c3 o
              have o4 : ∀ o : Out wr, o.y.cell? ⟨X, 4, none⟩ = some (.slice (some ⟨yb, yo, none⟩) kl yc') := fun o => q_cell c4 o
              have o5 : ∀ o : Out wr, o.y.cell? ⟨yb, yo + i, none⟩ = some (.string z) := fun o => q_cell hck o
              have g1 : (0 : Int) ≤ (i : Int) := by omega
              have g2 : (i : Int) < (kl : Int) := by omega
              have NXT : Hid (∀ (b : Bool) (w5 : World), Below wr.heap.size wr w5 → (b = true ↔ okA = true ∧ KTo K' (i + 1)) → WL2 ro X SB la n lc w.heap.size w m' okA K' (some ⟨yb, yo, none⟩) yc' (.int .i64 ((i + 1 : Nat) : Int)) (w5.setCell ⟨X, 3, none⟩ (.bool b))) := fun b w5 hb h => ⟨i + 1, b, by rw [HKL.out]; omega, rfl, (LK.out.below hb).setok b, (BB.out.trans (hb.mono BB.out.size)).setCell LK.out.xz _, h⟩
              have STO : Hid (∀ w5 : World, Below wr.heap.size wr w5 → (∃ u, w5.cell? ⟨X, 3, none⟩ = some u) ∧ w5.frozen? ⟨X, 3, none⟩ = false) := fun w5 hb => ⟨⟨_, (LK.out.below hb).box.cell 3⟩, (LK.out.below hb).box.thaw 3⟩
              cases okb
              · have HB2 : Hid ((false : Bool) = true ↔ okA = true ∧ KTo K' (i + 1)) := ⟨fun h => (by cases h), fun h => (by have := HOK.out.2 ⟨h.1, ⟨fun j hj => h.2.1 j (by omega), fun j h0 hj => h.2.2 j h0 (by omega)⟩⟩; cases this)⟩
                clear hyc hz hck
                go_wp2_with fail
                haveI nonE := Out.some wr
                refine region_store (os := ?m1xos) ?m1xh1 (by kernel_rfl) ?m1xh3 (by kernel_rfl) ?m1xh5 ?m1xh6 ?m1xh7 ?m1xh8
                case m1xh1 => exact rfl
                case m1xh3 => kernel_rfl
                case m1xh5 => kernel_rfl
                case m1xh6 => rfl
                case m1xh7 => rfl
                simp only [lastNo, noOp, List.getLast_cons_cons, List.getLast_singleton, List.dropLast_cons_cons, List.dropLast_singleton, List.cons_append, List.nil_append]
                repeat (go_big_quiet_step (fail))
                refine wpQuiet_nil ?_
                rintro w5 ⟨⟨y', hb3⟩, hy⟩
                have hy' : w5 = y' := hy
                clear hy
                subst hy'
                obtain ⟨⟨su, sc⟩, sf⟩ := STO.out _ hb3
                have E := NXT.out false _ hb3 (by first | exact HB2.out | simpa using HB2.out)
                have HE : Hid (WL2 ro X SB la n lc w.heap.size w m' okA K' (some ⟨yb, yo, none⟩) yc' (.int .i64 ((i + 1 : Nat) : Int)) (w5.setCell ⟨X, 3, none⟩ (.bool false))) := E
                clear hb3 E o3 o4 o5 NXT STO
                go_wp2
                go_roundw
                case rel => exact HE.out
                case measure => simp [intOf]; omega
              · cases hkk : kOK z
                · have HKK : Hid (kOK z = false) := hkk
                  have HB2 : Hid ((false : Bool) = true ↔ okA = true ∧ KTo K' (i + 1)) := ⟨fun h => (by cases h), fun h => (by have := h.2.1 i (by omega); rw [HZ.out, HKK.out] at this; cases this)⟩
                  have C77 : Hid (∀ o : Out wr, Calls Try.prog 77 #[.string z] o.y fun e y => e = .returned (.bool false) ∧ y = o.y) := fun o => by have := c_l09Key z o.y (by rw [← HZ.out]; exact HSZ.out (HOA.out.1 (HOK.out.1 (by trivial)).1).1 i); rw [HKK.out] at this; exact this
                  clear hyc hz hck hkk
                  go_wp2_with fail
                  haveI nonE := Out.some wr
                  refine region_store (os := ?m2xos) ?m2xh1 (by kernel_rfl) ?m2xh3 (by kernel_rfl) ?m2xh5 ?m2xh6 ?m2xh7 ?m2xh8
                  case m2xh1 => exact rfl
                  case m2xh3 => kernel_rfl
                  case m2xh5 => kernel_rfl
                  case m2xh6 => rfl
                  case m2xh7 => rfl
                  simp only [lastNo, noOp, List.getLast_cons_cons, List.getLast_singleton, List.dropLast_cons_cons, List.dropLast_singleton, List.cons_append, List.nil_append]
                  repeat (go_big_quiet_step ((exact q_same (C77.out _))))
                  refine wpQuiet_nil ?_
                  rintro w5 ⟨⟨y', hb3⟩, hy⟩
                  have hy' : w5 = y' := hy
                  clear hy
                  subst hy'
                  obtain ⟨⟨su, sc⟩, sf⟩ := STO.out _ hb3
                  have E := NXT.out false _ hb3 (by first | exact HB2.out | simpa using HB2.out)
                  have HE : Hid (WL2 ro X SB la n lc w.heap.size w m' okA K' (some ⟨yb, yo, none⟩) yc' (.int .i64 ((i + 1 : Nat) : Int)) (w5.setCell ⟨X, 3, none⟩ (.bool false))) := E
                  clear hb3 E o3 o4 o5 NXT STO C77
                  go_wp2
                  go_roundw
                  case rel => exact HE.out
                  case measure => simp [intOf]; omega
                · have HKK : Hid (kOK z = true) := hkk
                  have C77 : Hid (∀ o : Out wr, Calls Try.prog 77 #[.string z] o.y fun e y => e = .returned (.bool true) ∧ y = o.y) := fun o => by have := c_l09Key z o.y (by rw [← HZ.out]; exact HSZ.out (HOA.out.1 (HOK.out.1 (by trivial)).1).1 i); rw [HKK.out] at this; exact this
                  by_cases h0 : 0 < i
                  · obtain ⟨y, hy⟩ : ∃ y, K'.getD (i - 1) zS = y := ⟨_, rfl⟩
                    have HY : Hid (K'.getD (i - 1) zS = y) := hy
                    have hcy : wr.cell? ⟨yb, yo + (i - 1), none⟩ = some (.string y) := by rw [hyc (i - 1) (by rw [HKL.out]; omega), ← hy]; exact map_get _ _ _ _ (by rw [HKL.out]; omega)
                    have o6 : ∀ o : Out wr, o.y.cell? ⟨yb, yo + (i - 1), none⟩ = some (.string y) := fun o => q_cell hcy o
                    have q0 : ((i : Int) == 0) = false := by simp; omega
                    have w1 : IntKind.i64.wrap ((i : Int) - 1) = (i : Int) - 1 := by rw [IntKind.wrap_i64]; omega
                    have w2 : ((i : Int) - 1).toNat = i - 1 := by omega
                    have w3' : (0 : Int) ≤ (i : Int) - 1 := by omega
                    have w4' : (i : Int) - 1 < (kl : Int) := by omega
                    have H0 : Hid (0 < i) := h0
                    obtain ⟨lb, hlb⟩ : ∃ b, Op.bytesLess y.toList z.toList = b := ⟨_, rfl⟩
                    have HLB : Hid (Op.bytesLess y.toList z.toList = lb) := hlb
                    have HB2 : Hid (lb = true ↔ okA = true ∧ KTo K' (i + 1)) := ⟨fun h => ⟨(HOK.out.1 (by trivial)).1, (HOK.out.1 (by trivial)).2.step (by rw [HZ.out]; exact HKK.out) (fun _ => by rw [HZ.out, HY.out, HLB.out]; exact h)⟩, fun h => by have := h.2.2 i H0.out (by omega); rw [HZ.out, HY.out, HLB.out] at this; exact this⟩
                    clear hyc hz hy hck hcy hkk
                    go_wp2_with fail
                    haveI nonE := Out.some wr
                    refine region_store (os := ?m3xos) ?m3xh1 (by kernel_rfl) ?m3xh3 (by kernel_rfl) ?m3xh5 ?m3xh6 ?m3xh7 ?m3xh8
                    case m3xh1 => exact rfl
                    case m3xh3 => kernel_rfl
                    case m3xh5 => kernel_rfl
                    case m3xh6 => rfl
                    case m3xh7 => rfl
                    simp only [lastNo, noOp, List.getLast_cons_cons, List.getLast_singleton, List.dropLast_cons_cons, List.dropLast_singleton, List.cons_append, List.nil_append]
                    repeat (go_big_quiet_step ((exact q_same (C77.out _))))
                    refine wpQuiet_nil ?_
                    rintro w5 ⟨⟨y', hb3⟩, hy⟩
                    have hy' : w5 = y' := hy
                    clear hy
                    subst hy'
                    obtain ⟨⟨su, sc⟩, sf⟩ := STO.out _ hb3
                    have E := NXT.out lb _ hb3 (by first | exact HB2.out | simpa using HB2.out)
                    have HE : Hid (WL2 ro X SB la n lc w.heap.size w m' okA K' (some ⟨yb, yo, none⟩) yc' (.int .i64 ((i + 1 : Nat) : Int)) (w5.setCell ⟨X, 3, none⟩ (.bool lb))) := E
                    clear hb3 E o3 o4 o5 NXT STO o6 C77
                    go_wp2
                    go_roundw
                    case rel => exact HE.out
                    case measure => simp [intOf]; omega
                  · obtain rfl : i = 0 := by omega
                    have HB2 : Hid ((true : Bool) = true ↔ okA = true ∧ KTo K' (0 + 1)) := ⟨fun _ => ⟨(HOK.out.1 (by trivial)).1, (HOK.out.1 (by trivial)).2.step (by rw [HZ.out]; exact HKK.out) (fun h => absurd h (by omega))⟩, fun _ => rfl⟩
                    rw [Nat.add_zero] at o5
                    clear hyc hz hck hkk
                    go_wp2_with fail
                    haveI nonE := Out.some wr
                    refine region_store (os := ?m4xos) ?m4xh1 (by kernel_rfl) ?m4xh3 (by kernel_rfl) ?m4xh5 ?m4xh6 ?m4xh7 ?m4xh8
                    case m4xh1 => exact rfl
                    case m4xh3 => kernel_rfl
                    case m4xh5 => kernel_rfl
                    case m4xh6 => rfl
                    case m4xh7 => rfl
                    simp only [lastNo, noOp, List.getLast_cons_cons, List.getLast_singleton, List.dropLast_cons_cons, List.dropLast_singleton, List.cons_append, List.nil_append]
                    repeat (go_big_quiet_step ((exact q_same (C77.out _))))
                    refine wpQuiet_nil ?_
                    rintro w5 ⟨⟨y', hb3⟩, hy⟩
                    have hy' : w5 = y' := hy
                    clear hy
                    subst hy'
                    obtain ⟨⟨su, sc⟩, sf⟩ := STO.out _ hb3
                    have E := NXT.out true _ hb3 (by first | exact HB2.out | simpa using HB2.out)
                    have HE : Hid (WL2 ro X SB la n lc w.heap.size w m' okA K' (some ⟨yb, yo, none⟩) yc' (.int .i64 ((0 + 1 : Nat) : Int)) (w5.setCell ⟨X, 3, none⟩ (.bool true))) := E
                    clear hb3 E o3 o4 o5 NXT STO C77
                    go_wp2
                    go_roundw
                    case rel => exact HE.out
                    case measure => simp [intOf]; omega
            · have e : i = kl := by omega
              subst e
              have ANS : Hid (∀ w5 : World, Below wr.heap.size wr w5 → AnsL (vs.map saysN) ro w (.returned (.tuple #[.slice ya' i yc', .int .i64 d, .bool (okb && decide ((i : Int) ≤ 60))])) w5) := fun w5 hb => by
                have hkp : (okb && decide ((i : Int) ≤ 60)) = true ↔ ok' = true ∧ (∀ j, j < n → m'.getD j true = true) ∧ KOK K' := by
                  rw [Bool.and_eq_true, decide_eq_true_eq, HOK.out, HOA.out]
                  constructor
                  · rintro ⟨⟨⟨h1, h2⟩, h3⟩, h4⟩
                    exact ⟨h1, h2, (KOK_iff (by rw [HKL.out]; exact h3)).2 (by rw [HKL.out]; omega)⟩
                  · rintro ⟨h1, h2, h3⟩
                    have := h3.1
                    rw [HKL.out] at this
                    exact ⟨⟨⟨h1, h2⟩, by have := h3.2; rw [HKL.out] at this; exact this⟩, by omega⟩
                exact ans_l HLL.out hlt2 HR.out hkp (by have := (LK.out.below hb).keys; rw [HKL.out] at this; exact this) HKL.out (by omega) (BB.out.trans (hb.mono BB.out.size))
              clear HR
              cases okb
              · go_wp2_with fail
                haveI nonE := Out.some wr
                have o3 : ∀ o : Out wr, o.y.cell? ⟨X, 3, none⟩ = some (.bool false) := fun o => q_cell c3 o
                have o4 : ∀ o : Out wr, o.y.cell? ⟨X, 4, none⟩ = some (.slice ya' i yc') := fun o => q_cell c4 o
                refine q_begin (by kernel_rfl) (by kernel_rfl) ?_
                repeat (go_big_quiet_step (fail))
                refine wpQuiet_nil ?_
                rintro w5 ⟨⟨y', hb3⟩, hy⟩
                have hy' : w5 = y' := hy
                clear hy
                subst hy'
                go_wp2
                go_ret3
                exact ANS.out _ hb3
              · have h60 : decide ((i : Int) ≤ 60) = decide ((i : Int) ≤ 60) := rfl
                go_wp2_with fail
                haveI nonE := Out.some wr
                have o3 : ∀ o : Out wr, o.y.cell? ⟨X, 3, none⟩ = some (.bool true) := fun o => q_cell c3 o
                have o4 : ∀ o : Out wr, o.y.cell? ⟨X, 4, none⟩ = some (.slice ya' i yc') := fun o => q_cell c4 o
                refine q_begin (by kernel_rfl) (by kernel_rfl) ?_
                repeat (go_big_quiet_step (fail))
                refine wpQuiet_nil ?_
                rintro w5 ⟨⟨y', hb3⟩, hy⟩
                have hy' : w5 = y' := hy
                clear hy
                subst hy'
                go_wp2
                go_ret3
                exact ANS.out _ hb3

end Go.Proofs.Ythnggpjgajkaeaa
