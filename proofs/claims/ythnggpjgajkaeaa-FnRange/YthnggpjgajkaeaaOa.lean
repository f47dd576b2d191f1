/-
  A tree's copy whose lists lie apart, and marks that are written into it.
-/
import Derived.Test.YthnggpjgajkaeaaMn
namespace Go.Proofs.Ythnggpjgajkaeaa
open Go Go.RowKit
attribute [local go_sem ↓] Go.wp_at_zero Go.wp_at_succ

/-- Nodes whose lists are the call's own, each node's in blocks of its own, in the nodes' order. -/
structure OwnB (w : World) (bs : Nat → Nat) (gs : List TNode) : Prop where
  mono : ∀ i, i < gs.length → bs i ≤ bs (i + 1)
  own : ∀ i, i < gs.length → OwnN1 w (bs i) (bs (i + 1)) (gs.getD i zeroN)
theorem OwnB.le {w : World} {bs : Nat → Nat} {gs : List TNode} (h : OwnB w bs gs) {i j : Nat} (hij : i ≤ j) (hj : j ≤ gs.length) : bs i ≤ bs j := by
  induction j with
  | zero =>
    have e : i = 0 := by omega
    rw [e]; exact Nat.le_refl _
  | succ j ih =>
    by_cases e : i = j + 1
    · rw [e]; exact Nat.le_refl _
    · exact Nat.le_trans (ih (by omega) (by omega)) (h.mono j (by omega))
theorem OwnB.step {wr w1 W : World} {bs : Nat → Nat} {gs : List TNode} {new : TNode} {k z : Nat} (hB : OwnB wr bs gs) (hgl : gs.length = k) (h0 : bs 0 = z) (hk2 : bs k ≤ wr.heap.size) (hb1 : ∀ g, g < wr.heap.size → w1.heap[g]? = wr.heap[g]?) (hs1 : wr.heap.size ≤ w1.heap.size) (og : OwnN1 w1 wr.heap.size w1.heap.size new) (sm : ∀ g, z ≤ g → W.heap[g]? = w1.heap[g]?) (hW : W.heap.size = w1.heap.size) (hz : z ≤ wr.heap.size) : ∃ bs' : Nat → Nat, OwnB W bs' (gs ++ [new]) ∧ bs' 0 = z ∧ bs' (k + 1) ≤ W.heap.size := by
  subst hgl
  have mn := fun i (hi : i ≤ gs.length) => hB.le (Nat.zero_le i) hi
  have mx := fun i (hi : i ≤ gs.length) => hB.le hi (Nat.le_refl _)
  refine ⟨fun j => if j ≤ gs.length then bs j else w1.heap.size, ⟨fun i hi => ?_, fun i hi => ?_⟩, by dsimp only; rw [if_pos (Nat.zero_le _)]; exact h0, by dsimp only; rw [if_neg (by omega), hW]; exact Nat.le_refl _⟩
  · rw [List.length_append, List.length_singleton] at hi
    by_cases e : i < gs.length
    · rw [if_pos (by omega), if_pos (by omega)]; exact hB.mono i e
    · rw [if_pos (by omega), if_neg (by omega)]; have := mx i (by omega); omega
  · rw [List.length_append, List.length_singleton] at hi
    rw [getD_appN]
    by_cases e : i < gs.length
    · rw [if_pos e, if_pos (by omega), if_pos (by omega)]
      have q1 := mn i (by omega)
      have q2 := mx (i + 1) (by omega)
      exact (hB.own i e).same fun g h1 h2 => (sm g (by omega)).trans (hb1 g (by omega))
    · have e' : i = gs.length := by omega
      rw [if_neg e, if_pos e', if_pos (by omega), if_neg (by omega)]
      rw [e']
      exact (og.same fun g h1 _ => sm g (by omega)).wide hk2 (Nat.le_refl _)
set_option maxRecDepth 100000 in
set_option maxHeartbeats 8000000 in
theorem c_toNB (a : Option Addr) (n cap : Nat) (vs : List TNode) (w : World) (hr : RdN w a n vs) (hn : n ≤ 1048576) (hf : ∀ i, i < n → FitN (vs.getD i zeroN)) :
    Calls Try.prog 57 #[.slice a n cap] w fun e w' => (∃ (gs : List TNode) (bs : Nat → Nat), e = .returned (.slice (some ⟨w.heap.size, 0, none⟩) n n) ∧ SameN vs gs ∧ w'.ownsRow w.heap.size 72 3 (.slice (some ⟨w.heap.size, 0, none⟩) n n) n (cellsN gs) ∧ (OwnB w' bs gs ∧ bs 0 = w.heap.size + 1 ∧ bs n ≤ w'.heap.size)) ∧ Below w.heap.size w w' := by
  obtain ⟨hl, hcs, hpg⟩ := hr
  have HPG : Hid (∀ i, i < n → InN w (vs.getD i zeroN)) := hpg
  have HF : Hid (∀ i, i < n → FitN (vs.getD i zeroN)) := hf
  clear hpg hf
  obtain ⟨i0, hi, hz0, hz1, hz2⟩ := info_parts infoNd
  go_enter Try.func57, Try.ntmps57
  go_wp2_with (at_make; refine wpList_make_full _ rfl (.tmp 6) (.tmp 6) 25 rfl w.heap.size 72 i0 (.agg #[.bool false, .slice none 0 0, .slice none 0 0]) 3 Try.underlying25 hi hz0 hz1 .i64 .i64 _ _ n rfl rfl rfl rfl (by rw [hz2]; omega) (by unfold maxLen; omega) (Nat.le_refl _) ?_; intro w1 hown hgrow)
  have hw1 : w.heap.size < w1.heap.size := by
    have := hown.lt w.heap.size rfl
    omega
  go_loopw [4] (fun i wr => ∃ (k : Nat) (gs : List TNode) (bs : Nat → Nat), k ≤ n ∧ gs.length = k ∧ i = .int .i64 k ∧ Hid (SameN (vs.take k) gs) ∧ Hid (wr.ownsRow w.heap.size 72 3 (.slice (some ⟨w.heap.size, 0, none⟩) n n) n (cellsN (gs ++ List.replicate (n - k) zeroN))) ∧ Hid (OwnB wr bs gs ∧ bs 0 = w.heap.size + 1 ∧ bs k ≤ wr.heap.size) ∧ Hid (Below w.heap.size w wr) ∧ w.heap.size < wr.heap.size) (fun i _ => n - (intOf i).toNat)
  case atStart => exact ⟨0, [], fun _ => w.heap.size + 1, by omega, rfl, rfl, rfl, by have e := made_zeroN n; simp only [Value.cells] at hown; rw [e] at hown; simpa [Hid] using hown, ⟨⟨fun i h => absurd h (by simp), fun i h => absurd h (by simp)⟩, rfl, hw1⟩, (Below.refl _ _).grown hgrow (Nat.le_refl _) (fun k h => by cases h), hw1⟩
  case round =>
    obtain ⟨k, gs, bs, hk, hgl, rfl, HSF, HO, HOF, HB, hwr⟩ := hrel
    by_cases hlt : k < n
    · obtain ⟨b, off, rfl, hbl, hc⟩ := hcs (by omega)
      obtain ⟨d0, d1, d2⟩ := hc k hlt
      have RG := (HPG.out k hlt).below HB.out
      have FG := HF.out k hlt
      obtain ⟨⟨lf, ka, kn, kc, ks, ia, im, ic, js⟩, hv⟩ : ∃ v, v = vs.getD k zeroN := ⟨_, rfl⟩
      have HV : Hid ((⟨lf, ka, kn, kc, ks, ia, im, ic, js⟩ : TNode) = vs.getD k zeroN) := hv
      rw [← hv] at d0 d1 d2 RG FG
      dsimp only at d0 d1 d2
      have hb := HB.out
      have e0 := (hb.cell (p := ⟨b, off + k * 3, none⟩) hbl).trans d0
      have e1 := (hb.cell (p := ⟨b, off + k * 3 + 1, none⟩) hbl).trans d1
      have e2 := (hb.cell (p := ⟨b, off + k * 3 + 2, none⟩) hbl).trans d2
      have C := c_toN1 lf ka kn kc ks ia im ic js wr RG.1 RG.2 FG.1 FG.2.1
      clear hc hcs hgrow hv RG FG d0 d1 d2 hb hown hw1 HPG HF
      go_wp2_with fail
      refine C.mono ?_
      rintro e w1 ⟨⟨x, y, rfl, o1, o2, lx, lxy, ly⟩, hb1⟩
      have hown1 := own_below HO.out hb1
      have hbb : Below w.heap.size w w1 := HB.out.trans (hb1.mono HB.out.size)
      have hs1 := hb1.size
      have og : OwnN1 w1 wr.heap.size w1.heap.size ⟨lf, some ⟨x, 0, none⟩, kn, kn, ks, some ⟨y, 0, none⟩, im, im, js⟩ := ⟨o1, o2, fun g e => by cases e; exact ⟨lx, Nat.lt_trans lxy ly⟩, fun g e => by cases e; exact ⟨Nat.le_trans lx (Nat.le_of_lt lxy), ly⟩⟩
      obtain ⟨u0, f0⟩ : ∃ u, w1.cell? ⟨w.heap.size, k * 3, none⟩ = some u := ⟨_, (hown1.cellAt (k * 3) (by omega)).trans (List.getElem?_eq_getElem (by rw [cellsN_len, List.length_append, List.length_replicate]; omega))⟩
      have z0 := hown1.frozenAt (k * 3)
      obtain ⟨u1, f1⟩ : ∃ u, w1.cell? ⟨w.heap.size, k * 3 + 1, none⟩ = some u := ⟨_, (hown1.cellAt (k * 3 + 1) (by omega)).trans (List.getElem?_eq_getElem (by rw [cellsN_len, List.length_append, List.length_replicate]; omega))⟩
      have z1 := hown1.frozenAt (k * 3 + 1)
      obtain ⟨u2, f2⟩ : ∃ u, w1.cell? ⟨w.heap.size, k * 3 + 2, none⟩ = some u := ⟨_, (hown1.cellAt (k * 3 + 2) (by omega)).trans (List.getElem?_eq_getElem (by rw [cellsN_len, List.length_append, List.length_replicate]; omega))⟩
      have z2 := hown1.frozenAt (k * 3 + 2)
      obtain ⟨m, hm⟩ : ∃ m, n - k = m + 1 := ⟨n - k - 1, by omega⟩
      have hput := own_putN hown1 k ⟨lf, some ⟨x, 0, none⟩, kn, kn, ks, some ⟨y, 0, none⟩, im, im, js⟩ (by rw [List.length_append, List.length_replicate]; omega)
      rw [hm, ← hgl, setN_part, hgl, show m = n - (k + 1) by omega] at hput
      have HP : Hid ((((w1.setCell ⟨w.heap.size, k * 3, none⟩ (.bool lf)).setCell ⟨w.heap.size, k * 3 + 1, none⟩ (.slice (some ⟨x, 0, none⟩) kn kn)).setCell ⟨w.heap.size, k * 3 + 2, none⟩ (.slice (some ⟨y, 0, none⟩) im im)).ownsRow w.heap.size 72 3 (.slice (some ⟨w.heap.size, 0, none⟩) n n) n (cellsN ((gs ++ [⟨lf, some ⟨x, 0, none⟩, kn, kn, ks, some ⟨y, 0, none⟩, im, im, js⟩]) ++ List.replicate (n - (k + 1)) zeroN))) := hput
      have BB : Hid (Below w.heap.size w (((w1.setCell ⟨w.heap.size, k * 3, none⟩ (.bool lf)).setCell ⟨w.heap.size, k * 3 + 1, none⟩ (.slice (some ⟨x, 0, none⟩) kn kn)).setCell ⟨w.heap.size, k * 3 + 2, none⟩ (.slice (some ⟨y, 0, none⟩) im im))) := (((hbb.setCell (Nat.le_refl _) _).setCell (Nat.le_refl _) _).setCell (Nat.le_refl _) _)
      obtain ⟨bs', hbs'⟩ : ∃ bs' : Nat → Nat, OwnB (((w1.setCell ⟨w.heap.size, k * 3, none⟩ (.bool lf)).setCell ⟨w.heap.size, k * 3 + 1, none⟩ (.slice (some ⟨x, 0, none⟩) kn kn)).setCell ⟨w.heap.size, k * 3 + 2, none⟩ (.slice (some ⟨y, 0, none⟩) im im)) bs' (gs ++ [⟨lf, some ⟨x, 0, none⟩, kn, kn, ks, some ⟨y, 0, none⟩, im, im, js⟩]) ∧ bs' 0 = w.heap.size + 1 ∧ bs' (k + 1) ≤ (((w1.setCell ⟨w.heap.size, k * 3, none⟩ (.bool lf)).setCell ⟨w.heap.size, k * 3 + 1, none⟩ (.slice (some ⟨x, 0, none⟩) kn kn)).setCell ⟨w.heap.size, k * 3 + 2, none⟩ (.slice (some ⟨y, 0, none⟩) im im)).heap.size := by
        obtain ⟨hB, h0, hk2⟩ := HOF.out
        refine OwnB.step hB hgl h0 hk2 (fun g hg => hb1.block g hg) hs1 og (fun g hg => ?_) (by simp) (by omega)
        rw [Below.heap_setCell _ _ _ _ (by simp; omega), Below.heap_setCell _ _ _ _ (by simp; omega), Below.heap_setCell _ _ _ _ (by simp; omega)]
      have OF : Hid (OwnB (((w1.setCell ⟨w.heap.size, k * 3, none⟩ (.bool lf)).setCell ⟨w.heap.size, k * 3 + 1, none⟩ (.slice (some ⟨x, 0, none⟩) kn kn)).setCell ⟨w.heap.size, k * 3 + 2, none⟩ (.slice (some ⟨y, 0, none⟩) im im)) bs' (gs ++ [⟨lf, some ⟨x, 0, none⟩, kn, kn, ks, some ⟨y, 0, none⟩, im, im, js⟩]) ∧ bs' 0 = w.heap.size + 1 ∧ bs' (k + 1) ≤ (((w1.setCell ⟨w.heap.size, k * 3, none⟩ (.bool lf)).setCell ⟨w.heap.size, k * 3 + 1, none⟩ (.slice (some ⟨x, 0, none⟩) kn kn)).setCell ⟨w.heap.size, k * 3 + 2, none⟩ (.slice (some ⟨y, 0, none⟩) im im)).heap.size) := hbs'
      clear hbs'
      have HS2 : Hid (SameN (vs.take (k + 1)) (gs ++ [⟨lf, some ⟨x, 0, none⟩, kn, kn, ks, some ⟨y, 0, none⟩, im, im, js⟩])) := by
        unfold Hid SameN
        rw [List.take_add_one, List.map_append, List.map_append, HSF.out]
        have e : vs[k]? = some ⟨lf, ka, kn, kc, ks, ia, im, ic, js⟩ := by
          have := HV.out
          rw [List.getD_eq_getElem?_getD, List.getElem?_eq_getElem (by omega)] at this
          rw [List.getElem?_eq_getElem (by omega)]
          exact congrArg some this.symm
        rw [e]
        rfl
      have hsz : w.heap.size < (((w1.setCell ⟨w.heap.size, k * 3, none⟩ (.bool lf)).setCell ⟨w.heap.size, k * 3 + 1, none⟩ (.slice (some ⟨x, 0, none⟩) kn kn)).setCell ⟨w.heap.size, k * 3 + 2, none⟩ (.slice (some ⟨y, 0, none⟩) im im)).heap.size := by simp; omega
      clear hput hown1 hb1 HO HB hbb HOF og o1 o2 HSF e0 e1 e2 C hm
      go_wp2
      go_roundw
      case rel => exact ⟨k + 1, gs ++ [⟨lf, some ⟨x, 0, none⟩, kn, kn, ks, some ⟨y, 0, none⟩, im, im, js⟩], bs', by omega, by simp [hgl], by go_num, HS2, HP, OF, BB, hsz⟩
      case measure => simp [intOf]; omega
    · have e : k = n := by omega
      subst e
      have ho := HO.out
      rw [Nat.sub_self, List.replicate_zero, List.append_nil] at ho
      have hs := HSF.out
      rw [List.take_of_length_le (by omega)] at hs
      have HO' : Hid (wr.ownsRow w.heap.size 72 3 (.slice (some ⟨w.heap.size, 0, none⟩) k k) k (cellsN gs)) := ho
      have HS' : Hid (SameN vs gs) := hs
      clear ho hs HO HSF
      go_wp2
      go_ret
      exact ⟨⟨gs, bs, rfl, HS'.out, HO'.out, HOF.out⟩, HB.out⟩

set_option maxRecDepth 100000 in
set_option maxHeartbeats 8000000 in
theorem c_toTB (ro : Int) (a : Option Addr) (n c : Nat) (vs : List TNode) (w : World) (hr : RdN w a n vs) (hn : n ≤ 1048576) (hf : ∀ i, i < n → FitN (vs.getD i zeroN)) :
    Calls Try.prog 29 #[.agg #[.int .i64 ro, .slice a n c]] w fun e w' => (∃ (x : Nat) (gs : List TNode) (bs : Nat → Nat), e = .returned (.agg #[.int .i64 ro, .slice (some ⟨x, 0, none⟩) n n]) ∧ SameN vs gs ∧ w'.ownsRow w.heap.size 72 3 (.slice (some ⟨x, 0, none⟩) n n) n (cellsN gs) ∧ (OwnB w' bs gs ∧ bs 0 = x + 1 ∧ bs n ≤ w'.heap.size) ∧ w.heap.size ≤ x ∧ x < w'.heap.size) ∧ Below w.heap.size w w' := by
  obtain ⟨V0, hV0⟩ : ∃ Q, w.alloc (.cells #[.int .i64 ro, .slice a n c] 46) = Q := ⟨_, rfl⟩
  have bV0 : Below w.heap.size w V0 := by rw [← hV0]; exact (Below.refl _ _).alloc (Nat.le_refl _) _
  have XV0 : Hid (Box V0 w.heap.size 46 #[.int .i64 ro, .slice a n c]) := by unfold Hid; rw [← hV0]; exact Box.new _ _ _
  obtain ⟨V1, hV1⟩ : ∃ Q, V0.alloc (.cells #[.int .i64 0, .slice none 0 0] 27) = Q := ⟨_, rfl⟩
  have bV1 : Below V0.heap.size V0 V1 := by rw [← hV1]; exact (Below.refl _ _).alloc (Nat.le_refl _) _
  have XV1 : Hid (Box V1 V0.heap.size 27 #[.int .i64 0, .slice none 0 0]) := by unfold Hid; rw [← hV1]; exact Box.new _ _ _
  obtain ⟨V2, hV2⟩ : ∃ Q, V1.alloc (.cells #[.int .i64 0, .slice none 0 0] 27) = Q := ⟨_, rfl⟩
  have bV2 : Below V1.heap.size V1 V2 := by rw [← hV2]; exact (Below.refl _ _).alloc (Nat.le_refl _) _
  have XV2 : Hid (Box V2 V1.heap.size 27 #[.int .i64 0, .slice none 0 0]) := by unfold Hid; rw [← hV2]; exact Box.new _ _ _
  have S0 : V0.heap.size = w.heap.size + 1 := by rw [← hV0]; simp
  have S1 : V1.heap.size = w.heap.size + 2 := by rw [← hV1]; simp [S0]
  have S2 : V2.heap.size = w.heap.size + 3 := by rw [← hV2]; simp [S1]
  rw [S0] at XV1
  rw [S1] at XV2
  have BV : Hid (Below w.heap.size w V2) := bV0.trans ((bV1.trans (bV2.mono bV1.size)).mono bV0.size)
  have Y0 : Hid (Box V2 w.heap.size 46 #[.int .i64 ro, .slice a n c]) := (XV0.out.belowS bV1).belowS bV2
  have Y1 : Hid (Box V2 (w.heap.size + 1) 27 #[.int .i64 0, .slice none 0 0]) := XV1.out.belowS bV2
  obtain ⟨P, hP⟩ : ∃ P, V2.setCell ⟨w.heap.size + 2, 0, none⟩ (.int .i64 ro) = P := ⟨_, rfl⟩
  have bP : Below (w.heap.size + 2) V2 P := by rw [← hP]; exact (Below.refl _ _).setCell (by show w.heap.size + 2 ≤ w.heap.size + 2; omega) _
  have SP : P.heap.size = w.heap.size + 3 := by rw [← hP]; simp [S2]
  have P2 : Hid (Box P (w.heap.size + 2) 27 #[.int .i64 ro, .slice none 0 0]) := by unfold Hid; rw [← hP]; exact XV2.out.set 0 _
  have P0 : Hid (Box P w.heap.size 46 #[.int .i64 ro, .slice a n c]) := Y0.out.below bP (by omega)
  have P1 : Hid (Box P (w.heap.size + 1) 27 #[.int .i64 0, .slice none 0 0]) := Y1.out.below bP (by omega)
  have BP : Hid (Below w.heap.size w P) := BV.out.trans (bP.mono (by omega))
  have C := c_toNB a n c vs P (hr.below BP.out) hn hf
  have x0 : V2.cell? ⟨w.heap.size, 0, none⟩ = some (.int .i64 ro) := Y0.out.cell 0
  have u0 : V2.cell? ⟨w.heap.size + 2, 0, none⟩ = some (.int .i64 0) := XV2.out.cell 0
  have t0 := XV2.out.thaw 0
  have x1 : P.cell? ⟨w.heap.size, 1, none⟩ = some (.slice a n c) := P0.out.cell 1
  clear bV0 bV1 bV2 bP hr hn hf XV0 XV1 XV2 Y0 Y1 BV
  go_enter Try.func29, Try.ntmps29
  go_wp2_with fail
  clear hP hV0 hV1 hV2 x0 u0 t0 x1
  refine C.mono ?_
  rintro e w1 ⟨⟨gs, bs, rfl, hsm, ho, hof⟩, hb⟩
  have s1 : P.heap.size < w1.heap.size := (ho.lt P.heap.size rfl).2
  rw [SP] at ho s1 hof ⊢
  have O1 : Hid (w1.ownsRow (w.heap.size + 3) 72 3 (.slice (some ⟨w.heap.size + 3, 0, none⟩) n n) n (cellsN gs)) := ho
  have F1 : Hid (OwnB w1 bs gs ∧ bs 0 = w.heap.size + 3 + 1 ∧ bs n ≤ w1.heap.size) := hof
  have hgl : gs.length = n := by have := ho.1; rw [cellsN_len] at this; omega
  have HGL : Hid (gs.length = n) := hgl
  clear hgl
  have HS : Hid (SameN vs gs) := hsm
  have B1 : Hid (Below w.heap.size w w1) := BP.out.trans (hb.mono BP.out.size)
  have Q1 : Hid (Box w1 (w.heap.size + 1) 27 #[.int .i64 0, .slice none 0 0]) := P1.out.belowS hb
  have Q2 : Hid (Box w1 (w.heap.size + 2) 27 #[.int .i64 ro, .slice none 0 0]) := P2.out.belowS hb
  clear ho hof hsm hb BP P0 P1 P2 C
  obtain ⟨U, hU⟩ : ∃ Q, w1.setCell ⟨w.heap.size + 2, 1, none⟩ (.slice (some ⟨w.heap.size + 3, 0, none⟩) n n) = Q := ⟨_, rfl⟩
  have bU : ∀ B, B ≤ w.heap.size + 2 → Below B w1 U := fun B hB => by rw [← hU]; exact (Below.refl _ _).setCell (by show B ≤ w.heap.size + 2; omega) _
  have SU : U.heap.size = w1.heap.size := by rw [← hU]; simp
  have SM : Hid (∀ g, g ≠ w.heap.size + 2 → U.heap[g]? = w1.heap[g]?) := by unfold Hid; intro g hg; rw [← hU]; exact Below.heap_setCell _ _ _ _ hg
  have U1 : Hid (Box U (w.heap.size + 1) 27 #[.int .i64 0, .slice none 0 0]) := Q1.out.below (bU (w.heap.size + 2) (by omega)) (by omega)
  have U2 : Hid (Box U (w.heap.size + 2) 27 #[.int .i64 ro, .slice (some ⟨w.heap.size + 3, 0, none⟩) n n]) := by unfold Hid; rw [← hU]; exact Q2.out.set 1 _
  have BU : Hid (Below w.heap.size w U) := B1.out.trans (bU _ (by omega))
  have c21 : w1.cell? ⟨w.heap.size + 2, 1, none⟩ = some (.slice none 0 0) := Q2.out.cell 1
  have t21 := Q2.out.thaw 1
  have a0 : U.cell? ⟨w.heap.size + 2, 0, none⟩ = some (.int .i64 ro) := U2.out.cell 0
  have a1 : U.cell? ⟨w.heap.size + 2, 1, none⟩ = some (.slice (some ⟨w.heap.size + 3, 0, none⟩) n n) := U2.out.cell 1
  have y0 := U1.out.cell 0
  have y1 := U1.out.cell 1
  have z0 := U1.out.thaw 0
  have z1 := U1.out.thaw 1
  clear bU Q1 Q2 B1
  go_wp2
  have sm : ∀ g, w.heap.size + 3 ≤ g → ((U.setCell ⟨w.heap.size + 1, 0, none⟩ (.int .i64 ro)).setCell ⟨w.heap.size + 1, 1, none⟩ (.slice (some ⟨w.heap.size + 3, 0, none⟩) n n)).heap[g]? = w1.heap[g]? := fun g hg => by
    rw [Below.heap_setCell _ _ _ _ (by show g ≠ w.heap.size + 1; omega), Below.heap_setCell _ _ _ _ (by show g ≠ w.heap.size + 1; omega)]
    exact SM.out g (by omega)
  refine retT Try.results29 rfl rfl (put2_box U1.out _ _) ⟨⟨w.heap.size + 3, gs, bs, rfl, HS.out, ?_, ?_, by omega, by simp; omega⟩, put2_below BU.out (by omega) _ _⟩
  · exact (own_same O1.out fun g e => by rw [ob_slice] at e; cases e; exact sm (w.heap.size + 3) (by omega)).down (by omega)
  · obtain ⟨hB, h0, hk⟩ := F1.out
    have hgl := HGL.out
    refine ⟨⟨hB.mono, fun i hi => (hB.own i hi).same fun g h1 _ => sm g ?_⟩, h0, by simpa [SU] using hk⟩
    have := hB.le (Nat.zero_le i) (show i ≤ gs.length by omega)
    omega

/-- Lists of a node that are own, whatever they hold. -/
def AnyN1 (w : World) (B E : Nat) (v : TNode) : Prop := (∃ xs, w.ownsRow B 9 1 (.slice v.ka v.kn v.kc) v.kn xs) ∧ (∃ xs, w.ownsRow B 3 1 (.slice v.ia v.im v.ic) v.im xs) ∧ (∀ g, ob v.ka = some g → B ≤ g ∧ g < E) ∧ (∀ g, ob v.ia = some g → B ≤ g ∧ g < E)
theorem AnyN1.of {w : World} {B E : Nat} {v : TNode} (h : OwnN1 w B E v) : AnyN1 w B E v := ⟨⟨_, h.1⟩, ⟨_, h.2.1⟩, h.2.2.1, h.2.2.2⟩
theorem AnyN1.same {w w' : World} {B E : Nat} {v : TNode} (h : AnyN1 w B E v) (hs : ∀ g, B ≤ g → g < E → w'.heap[g]? = w.heap[g]?) : AnyN1 w' B E v := by
  obtain ⟨⟨xs, h1⟩, ⟨ys, h2⟩, h3, h4⟩ := h
  exact ⟨⟨xs, own_same h1 fun g e => by rw [ob_slice] at e; have := h3 g e; exact hs g this.1 this.2⟩, ⟨ys, own_same h2 fun g e => by rw [ob_slice] at e; have := h4 g e; exact hs g this.1 this.2⟩, h3, h4⟩
def marksI (k0 n : Nat) : List Value := (List.range n).map fun i => Value.int .i64 ((k0 + i : Nat) : Int)
theorem marksI_get (k0 n k : Nat) (h : k < n) : (marksI k0 n)[k]? = some (.int .i64 ((k0 + k : Nat) : Int)) := by
  unfold marksI; rw [List.getElem?_map, List.getElem?_range h]; rfl
theorem marksI_len (k0 n : Nat) : (marksI k0 n).length = n := by simp [marksI]
set_option maxRecDepth 100000 in
set_option maxHeartbeats 4000000 in
theorem c_markI (base : Nat) (v : Value) (n k0 : Nat) (xs : List Value) (w : World) (hown : w.ownsRow base 3 1 v n xs) (hn : n ≤ 2097152) (hk : k0 ≤ 576460752303423488) :
    Calls Try.prog 80 #[v, .int .i64 k0] w fun e w' => e = .returned (.int .i64 (k0 + n : Nat)) ∧ w'.ownsRow base 3 1 v n (marksI k0 n) ∧ w.grownBy w' v.ownBlock := by
  have hxl : xs.length = n := by simpa using hown.1
  rcases own_form hown with ⟨rfl, rfl⟩ | ⟨g, cap, rfl, hg1, hg2⟩
  · go_enter Try.func80, Try.ntmps80
    go_wp2
    refine wp_loop_rounds 1 ?_
    rw [rounds_succ]
    go_wp2
    go_ret
    exact ⟨by simp, by simpa [marksI] using World.ownsRow_nil w base 3 1, World.grownBy.refl _ _⟩
  · go_enter Try.func80, Try.ntmps80
    go_wp2
    go_loopw [1, 5] (fun m i wr => ∃ k : Nat, k ≤ n ∧ i = .int .i64 k ∧ m = .int .i64 ((k0 + k : Nat) : Int) ∧ wr.ownsRow base 3 1 (.slice (some ⟨g, 0, none⟩) n cap) n (mixV (marksI k0 n) xs k) ∧ w.grownBy wr (some g)) (fun _ i _ => n - (intOf i).toNat)
    case atStart => exact ⟨0, by omega, rfl, rfl, by rw [mixV_zero]; exact hown, World.grownBy.refl _ _⟩
    case round =>
      obtain ⟨k, hk, rfl, rfl, hown, hgr⟩ := hrel
      by_cases hlt : k < n
      · obtain ⟨old, hold⟩ : ∃ old, wr.cell? ⟨g, k, none⟩ = some old := by
          rw [hown.cellAt k (by omega)]
          exact ⟨_, List.getElem?_eq_getElem (by rw [hown.1]; omega)⟩
        have hfz := hown.frozenAt k
        obtain ⟨hown2, hgr2⟩ := hown.stored k (.int .i64 ((k0 + k : Nat) : Int))
        rw [mixV_step _ _ n k _ hxl (marksI_len _ _) hlt (marksI_get _ _ _ hlt)] at hown2
        have HO : Hid ((wr.setCell ⟨g, k, none⟩ (.int .i64 ((k0 + k : Nat) : Int))).ownsRow base 3 1 (.slice (some ⟨g, 0, none⟩) n cap) n (mixV (marksI k0 n) xs (k + 1))) := hown2
        have HG : Hid (w.grownBy (wr.setCell ⟨g, k, none⟩ (.int .i64 ((k0 + k : Nat) : Int))) (some g)) := hgr.trans hgr2
        clear hown2 hgr2 hown hgr
        go_wp2
        go_roundw
        case rel => exact ⟨k + 1, by omega, by go_num, by go_num, HO.out, HG.out⟩
        case measure => simp [intOf]; omega
      · have e : k = n := by omega
        subst e
        rw [mixV_full _ _ k hxl (marksI_len _ _)] at hown
        go_wp2
        go_ret
        exact ⟨rfl, hown, hgr⟩

set_option maxHeartbeats 1000000 in
theorem c_mtextW (k0 : Nat) (w : World) (h1 : 1 ≤ k0) (h2 : k0 ≤ 1152921504606846976) :
    Calls Try.prog 58 #[.int .i64 k0] w fun e w' => e = .returned (.string (mtext k0)) ∧ Below w.heap.size w w' := by
  have hk0 : ¬ (k0 : Int) ≤ 0 := by omega
  go_enter Try.func58, Try.ntmps58
  go_wp2
  go_loopw [0, 3] (fun x o wr => ∃ (k f : Nat) (out : List UInt8), k ≤ f ∧ out.length + k ≤ k0 ∧ x = .int .i64 k ∧ o = .string ⟨out.toArray⟩ ∧ Hid (mt f k out = mt k0 k0 []) ∧ Below w.heap.size w wr) (fun x _ _ => (intOf x).toNat)
  case atStart => exact ⟨k0, k0, [], Nat.le_refl _, by simp, rfl, rfl, rfl, Below.refl _ _⟩
  case round =>
    obtain ⟨k, f, out, hkf, hol, rfl, rfl, HM, hb⟩ := hrel
    have hsz : (⟨out.toArray⟩ : ByteArray).size = out.length := by simp [ByteArray.size]
    by_cases hlt : 0 < k
    · have hcv := conv_dig k wr
      obtain ⟨f', hf', hst⟩ := mt_step (out := out) hlt hkf
      have HS : Hid (_ = _) := hst
      have hs1 : (⟨#[digC k]⟩ : ByteArray).size = 1 := rfl
      clear hst
      go_wp2
      go_roundw
      case rel => exact ⟨k / 10, f', digC k :: out, hf', by simp; omega, by go_num, str_val (cat_cons _ _), HS.out.symm.trans HM.out, hb.alloc (hb.size) _⟩
      case measure => simp [intOf]; omega
    · have e : k = 0 := by omega
      subst e
      have hs1 : (⟨#[109]⟩ : ByteArray).size = 1 := rfl
      go_wp2
      go_ret
      exact ⟨ret_str (by rw [cat_cons]; unfold mtext; rw [← HM.out, mt_end]), hb⟩

theorem c_mtextIW (x : Int) (k : Nat) (w : World) (hx : x = k) (h1 : 1 ≤ k) (h2 : k ≤ 1152921504606846976) :
    Calls Try.prog 58 #[.int .i64 x] w fun e w' => e = .returned (.string (mtext k)) ∧ Below w.heap.size w w' := by
  subst hx; exact c_mtextW k w h1 h2
set_option maxHeartbeats 1000000 in
theorem c_markSW (base : Nat) (v : Value) (n k0 : Nat) (xs : List Value) (w : World) (hown : w.ownsRow base 9 1 v n xs) (h1 : 1 ≤ k0) (hn : n ≤ 2097152) (hk : k0 ≤ 576460752303423488) :
    Calls Try.prog 34 #[v, .int .i64 k0] w fun e w' => e = .returned (.int .i64 (k0 + n : Nat)) ∧ w'.ownsRow base 9 1 v n (marksS k0 n) ∧ w.grownBy w' v.ownBlock := by
  have hxl : xs.length = n := by simpa using hown.1
  rcases own_form hown with ⟨rfl, rfl⟩ | ⟨g, cap, rfl, hg1, hg2⟩
  · go_enter Try.func34, Try.ntmps34
    go_wp2
    refine wp_loop_rounds 1 ?_
    rw [rounds_succ]
    go_wp2
    go_ret
    exact ⟨by simp, by simpa [marksS] using World.ownsRow_nil w base 9 1, World.grownBy.refl _ _⟩
  · go_enter Try.func34, Try.ntmps34
    go_wp2
    go_loopw [1, 5] (fun m i wr => ∃ k : Nat, k ≤ n ∧ i = .int .i64 k ∧ m = .int .i64 ((k0 + k : Nat) : Int) ∧ wr.ownsRow base 9 1 (.slice (some ⟨g, 0, none⟩) n cap) n (mixV (marksS k0 n) xs k) ∧ w.grownBy wr (some g)) (fun _ i _ => n - (intOf i).toNat)
    case atStart => exact ⟨0, by omega, rfl, rfl, by rw [mixV_zero]; exact hown, World.grownBy.refl _ _⟩
    case round =>
      obtain ⟨k, hk, rfl, rfl, hown, hgr⟩ := hrel
      by_cases hlt : k < n
      · go_wp2_with fail
        refine (c_mtextIW _ (k0 + k) _ (by omega) (by omega) (by omega)).mono ?_
        rintro e w1 ⟨rfl, hb1⟩
        have hown1 := own_below hown hb1
        have hgr1 := hgr.trans (grown_of_below hb1 (some g))
        obtain ⟨old, hold⟩ : ∃ old, w1.cell? ⟨g, k, none⟩ = some old := by
          rw [hown1.cellAt k (by omega)]
          exact ⟨_, List.getElem?_eq_getElem (by rw [hown1.1]; omega)⟩
        have hfz := hown1.frozenAt k
        obtain ⟨hown2, hgr2⟩ := hown1.stored k (.string (mtext (k0 + k)))
        rw [mixV_step _ _ n k _ hxl (marksS_len _ _) hlt (marksS_get _ _ _ hlt)] at hown2
        have HO : Hid (_) := hown2
        have HG : Hid (_) := hgr1.trans hgr2
        clear hown2 hgr2 hown1 hgr1 hown hgr hb1
        go_wp2
        go_roundw
        case rel => exact ⟨k + 1, by omega, by go_num, by go_num, HO.out, HG.out⟩
        case measure => simp [intOf]; omega
      · have e : k = n := by omega
        subst e
        rw [mixV_full _ _ k hxl (marksS_len _ _)] at hown
        go_wp2
        go_ret
        exact ⟨rfl, hown, hgr⟩


end Go.Proofs.Ythnggpjgajkaeaa
