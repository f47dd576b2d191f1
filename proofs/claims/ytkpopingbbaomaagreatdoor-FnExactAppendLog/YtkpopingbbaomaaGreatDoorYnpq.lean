/-
  The specification's copy of a store.
-/
import Derived.Test.YtkpopingbbaomaaGreatDoorZzau
namespace Go.Proofs.YtkpopingbbaomaaGreatDoor
open Go Go.RowKit
attribute [local go_sem ↓] Go.wp_at_zero Go.wp_at_succ

/-- What is read of a disk and of frames, whatever becomes of the blocks ahead of q0 and from q1 to q2. -/
def RdT (w : World) (h : HD) (D : DD) (fa : Option Addr) (fn : Nat) (F : List FF) (q0 q1 q2 : Nat) : Prop :=
  ∀ W : World, w.heap.size ≤ W.heap.size → (∀ g, q0 ≤ g → g < w.heap.size → (g < q1 ∨ q2 ≤ g) → W.heap[g]? = w.heap[g]?) → RdD W h D ∧ RdF W fa fn F
theorem rdQ_none {w : World} {a : Option Addr} {n c : Nat} {vs : List DR} (r : RdQ w a n vs) (hs : a = none → c = 0) : a = none → n = 0 ∧ c = 0 := fun e => by
  refine ⟨?_, hs e⟩
  rcases Nat.eq_zero_or_pos n with h | h
  · exact h
  · obtain ⟨b, off, e', _⟩ := r.2 h; rw [e] at e'; cases e'
theorem ownG_keep {w w' : World} {B E : Nat} {h : G.HG} {D : G.DG} (o : G.OwnG w B E h D) (hsz : w.heap.size ≤ w'.heap.size) (hs : ∀ g, ob h.a = some g → w'.heap[g]? = w.heap[g]?) : G.OwnG w' B E h D := by
  obtain ⟨h1, h2, h5, h6⟩ := o
  exact ⟨h1, own_same h2 fun g e => hs g (by rw [ob_slice] at e; exact e), by omega, h6⟩
set_option maxRecDepth 100000 in
set_option maxHeartbeats 8000000 in
theorem c_l05Own (h : HD) (D : DD) (ep : Int) (la : Option Addr) (ln lc : Nat) (L : List DR) (su : Int) (fa : Option Addr) (fn fc : Nat) (F : List FF) (ha : Int) (w : World) (r : RdD w h D) (hk : HOK h) (rl : RdQ w la ln L) (hlk : la = none → lc = 0) (rf : RdF w fa fn F) (hpk : ∀ i, i < fn → G.SrcG (F.getD i zeroF).h) (hf : FitS D ln L fn F) :
    Calls Tryz.prog 94 #[.agg #[.slice h.a0 h.n0 h.c0, .slice h.a1 h.n1 h.c1, .bool h.b, .slice h.a2 h.n2 h.c2, .int .i64 ep, .slice la ln lc, .int .i64 su, .slice fa fn fc, .int .i64 ha]] w fun e w' => (∃ (h' : HD) (la' : Option Addr) (lc' : Nat) (fa' : Option Addr) (fc' : Nat) (gs : List FF) (q1 q2 : Nat), e = .returned (.agg #[.slice h'.a0 h'.n0 h'.c0, .slice h'.a1 h'.n1 h'.c1, .bool h'.b, .slice h'.a2 h'.n2 h'.c2, .int .i64 ep, .slice la' ln lc', .int .i64 su, .slice fa' fn fc', .int .i64 ha]) ∧ SameF F gs ∧ w.heap.size ≤ q1 ∧ q2 ≤ w'.heap.size ∧ (w'.ownsRow q1 78 10 (.slice la' ln lc') ln (cellsQ L) ∧ ∀ g, ob la' = some g → q1 ≤ g ∧ g < q2) ∧ RdT w' h' D fa' fn gs w.heap.size q1 q2) ∧ Below w.heap.size w w' := by
  obtain ⟨V, hV⟩ : ∃ V, (w.alloc (.cells #[.slice h.a0 h.n0 h.c0, .slice h.a1 h.n1 h.c1, .bool h.b, .slice h.a2 h.n2 h.c2, .int .i64 ep, .slice la ln lc, .int .i64 su, .slice fa fn fc, .int .i64 ha] 46)).alloc (.cells #[.slice none 0 0, .slice none 0 0, .bool false, .slice none 0 0, .int .i64 0, .slice none 0 0, .int .i64 0, .slice none 0 0, .int .i64 0] 46) = V := ⟨_, rfl⟩
  have HB : Hid (Below w.heap.size w V) := by unfold Hid; rw [← hV]; exact ((Below.refl _ _).alloc (Nat.le_refl _) _).alloc (by simp) _
  have BX : Hid (Box V w.heap.size 46 #[.slice h.a0 h.n0 h.c0, .slice h.a1 h.n1 h.c1, .bool h.b, .slice h.a2 h.n2 h.c2, .int .i64 ep, .slice la ln lc, .int .i64 su, .slice fa fn fc, .int .i64 ha]) := by unfold Hid; rw [← hV]; exact (Box.new _ _ _).alloc _
  have BR : Hid (Box V (w.heap.size + 1) 46 #[.slice none 0 0, .slice none 0 0, .bool false, .slice none 0 0, .int .i64 0, .slice none 0 0, .int .i64 0, .slice none 0 0, .int .i64 0]) := by unfold Hid; rw [← hV]; exact Box.new2 _ _ _ _
  have C0 := c_l02Own h D V (r.below HB.out) hk hf.1
  obtain ⟨iQ, giQ, gzQ0, gzQ1, gzQ2⟩ := info_parts infoQ
  have hiQ : Hid (Tryz.prog.info? 78 = some iQ) := giQ
  have hzQ0 : Hid (iQ.zero = some (.agg #[.int .i64 0, .int .i64 0, .int .i64 0, .int .i64 0, .int .i64 0, .int .i64 0, .int .i64 0, .int .i64 0, .string ⟨#[]⟩, .string ⟨#[]⟩])) := gzQ0
  have hzQ1 : Hid (iQ.size = 10) := gzQ1
  have hzQ2 : Hid (iQ.bytes = 96) := gzQ2
  obtain ⟨iF, giF, gzF0, gzF1, gzF2⟩ := info_parts infoF
  have hiF : Hid (Tryz.prog.info? 142 = some iF) := giF
  have hzF0 : Hid (iF.zero = some (.agg #[.int .i64 0, .int .i64 0, .slice none 0 0, .bool false, .int .i64 0])) := gzF0
  have hzF1 : Hid (iF.size = 5) := gzF1
  have hzF2 : Hid (iF.bytes = 56) := gzF2
  have RL : Hid (RdQ w la ln L) := rl
  have NL : Hid (la = none → ln = 0 ∧ lc = 0) := rdQ_none rl hlk
  have RF : Hid (RdF w fa fn F) := rf
  have HPK : Hid (∀ i, i < fn → G.SrcG (F.getD i zeroF).h) := hpk
  have HF : Hid (FitS D ln L fn F) := hf
  have HFL : Hid (F.length = fn) := rf.1
  have hfn : fn ≤ 1048576 := hf.2.2.1
  have hln : ln ≤ 1048576 := hf.2.1.1
  clear r hk rl hlk rf hpk hf giQ gzQ0 gzQ1 gzQ2 giF gzF0 gzF1 gzF2
  obtain ⟨v0, v1, v2, v3, v4, v5, v6, v7, v8⟩ := box9 BX.out
  go_enter Tryz.func94, Tryz.ntmps94
  go_wp2_with fail
  refine C0.mono ?_
  rintro e w1 ⟨⟨h1, rfl, o1⟩, hb⟩
  have s0 : w.heap.size + 1 < V.heap.size := BR.out.lt
  have s1 : V.heap.size ≤ w1.heap.size := hb.size
  have bx := BX.out.belowS hb
  have br := BR.out.belowS hb
  have hbw : Below w.heap.size w w1 := HB.out.trans (hb.mono HB.out.size)
  obtain ⟨W1, hW1⟩ : ∃ W1, (((w1.setCell ⟨w.heap.size, 0, none⟩ (.slice h1.a0 h1.n0 h1.c0)).setCell ⟨w.heap.size, 1, none⟩ (.slice h1.a1 h1.n1 h1.c1)).setCell ⟨w.heap.size, 2, none⟩ (.bool h1.b)).setCell ⟨w.heap.size, 3, none⟩ (.slice h1.a2 h1.n2 h1.c2) = W1 := ⟨_, rfl⟩
  have K1 : ∀ g, g ≠ w.heap.size → W1.heap[g]? = w1.heap[g]? := fun g hg => by rw [← hW1, Below.heap_setCell _ _ _ _ hg, Below.heap_setCell _ _ _ _ hg, Below.heap_setCell _ _ _ _ hg, Below.heap_setCell _ _ _ _ hg]
  have S1 : W1.heap.size = w1.heap.size := by rw [← hW1]; simp
  have B1 : Hid (Below w.heap.size w W1) := by unfold Hid; rw [← hW1]; exact (((hbw.setCell (Nat.le_refl _) _).setCell (Nat.le_refl _) _).setCell (Nat.le_refl _) _).setCell (Nat.le_refl _) _
  have X1 : Hid (Box W1 w.heap.size 46 #[.slice h1.a0 h1.n0 h1.c0, .slice h1.a1 h1.n1 h1.c1, .bool h1.b, .slice h1.a2 h1.n2 h1.c2, .int .i64 ep, .slice la ln lc, .int .i64 su, .slice fa fn fc, .int .i64 ha]) := by
    have := (((bx.set 0 (.slice h1.a0 h1.n0 h1.c0)).set 1 (.slice h1.a1 h1.n1 h1.c1)).set 2 (.bool h1.b)).set 3 (.slice h1.a2 h1.n2 h1.c2)
    rw [hW1] at this
    simpa [Hid] using this
  have Y1 : Hid (Box W1 (w.heap.size + 1) 46 #[.slice none 0 0, .slice none 0 0, .bool false, .slice none 0 0, .int .i64 0, .slice none 0 0, .int .i64 0, .slice none 0 0, .int .i64 0]) := (K1 _ (by omega)).trans br
  have O1 : Hid (OwnD W1 V.heap.size w1.heap.size h1 D) := o1.same (w' := W1) (by omega) fun g h1 _ => K1 g (by omega)
  obtain ⟨s0, s1, s2, s3, s4, s5, s6, s7, s8⟩ := box9 bx
  have z0 := bx.thaw 0
  have z1 := bx.thaw 1
  have z2 := bx.thaw 2
  have z3 := bx.thaw 3
  obtain ⟨x0, x1, x2, x3, x4, x5, x6, x7, x8⟩ := box9 X1.out
  have sW : w.heap.size + 1 < W1.heap.size := by omega
  have sW0 : w.heap.size < W1.heap.size := by omega
  have sW1 : w.heap.size < w1.heap.size := by omega
  have LIT : Hid ((W1.alloc (.cells #[] 78)).ownsRow W1.heap.size 78 10 (.slice (some ⟨w1.heap.size, 0, none⟩) 0 0) 0 []) := S1 ▸ World.ownsRow_lit W1 #[] 0 (Nat.le_refl _) (Nat.zero_le _) rfl
  clear hb o1 C0 BX BR HB hV K1 hbw br v0 v1 v2 v3 v4 v5 v6 v7 v8
  go_wp2_with (
    at_builtin; refine app_any _ rfl (.tmp 10) (.tmp 12) 43 rfl W1.heap.size 78 iQ (.agg #[.int .i64 0, .int .i64 0, .int .i64 0, .int .i64 0, .int .i64 0, .int .i64 0, .int .i64 0, .int .i64 0, .string ⟨#[]⟩, .string ⟨#[]⟩]) 10 96 Tryz.underlying43 hiQ.out hzQ0.out hzQ1.out hzQ2.out rfl (by omega) (.slice (some ⟨w1.heap.size, 0, none⟩) 0 0) 0 [] rfl LIT.out la ln lc (cellsQ L) rfl NL.out (by rw [cellsQ_len, RL.out.1]) (fun ad e => srcQ (e ▸ (RL.out.below (B1.out.alloc B1.out.size _)))) (cellsQ_one L) (by unfold maxLen; omega) (by omega) (by simp) ?_
    intro l1 lc1 w2 ho hg0 hk0
    have hg : (W1.alloc (.cells #[] 78)).grownBy w2 (some W1.heap.size) := S1 ▸ hg0
    have hkk : ∀ g, ob l1 = some g → W1.heap.size ≤ g := fun g e => by rcases hk0 g e with h | h; exact Nat.le_of_eq (S1.trans (Option.some.inj h)); rw [h]; simp
    clear hg0 hk0
    rw [Nat.zero_add] at ho
    rw [List.nil_append] at ho
    have sz2 : W1.heap.size < w2.heap.size := by have := hg.size; simp at this; omega
    have hlt : ∀ g, ob l1 = some g → g < w2.heap.size := fun g e => (ho.lt g (by rw [ob_slice]; exact e)).2
    have bx2 : Box w2 w.heap.size 46 #[.slice h1.a0 h1.n0 h1.c0, .slice h1.a1 h1.n1 h1.c1, .bool h1.b, .slice h1.a2 h1.n2 h1.c2, .int .i64 ep, .slice la ln lc, .int .i64 su, .slice fa fn fc, .int .i64 ha] := (X1.out.alloc _).grown hg (by simp; omega)
    have br2 : Box w2 (w.heap.size + 1) 46 #[.slice none 0 0, .slice none 0 0, .bool false, .slice none 0 0, .int .i64 0, .slice none 0 0, .int .i64 0, .slice none 0 0, .int .i64 0] := (Y1.out.alloc _).grown hg (by simp; omega)
    have hb2 : Below w.heap.size w w2 := (B1.out.alloc B1.out.size _).grown hg (by simp; omega) (fun k h => by cases h; omega)
    have od2 : OwnD w2 V.heap.size w1.heap.size h1 D := O1.out.same (w' := w2) (by omega) fun g a1 a2 => (hg.block g (by simp; omega) (fun e => by cases e; omega)).trans (Below.heap_alloc W1 _ g (by omega))
    obtain ⟨W2, hW2⟩ : ∃ W2, w2.setCell ⟨w.heap.size, 5, none⟩ (.slice l1 ln lc1) = W2 := ⟨_, rfl⟩
    have K2 : ∀ g, g ≠ w.heap.size → W2.heap[g]? = w2.heap[g]? := fun g hne => by rw [← hW2, Below.heap_setCell _ _ _ _ hne]
    have S2 : W2.heap.size = w2.heap.size := by rw [← hW2]; simp
    have X2 : Hid (Box W2 w.heap.size 46 #[.slice h1.a0 h1.n0 h1.c0, .slice h1.a1 h1.n1 h1.c1, .bool h1.b, .slice h1.a2 h1.n2 h1.c2, .int .i64 ep, .slice l1 ln lc1, .int .i64 su, .slice fa fn fc, .int .i64 ha]) := by have := bx2.set 5 (.slice l1 ln lc1); rw [hW2] at this; simpa [Hid] using this
    have Y2 : Hid (Box W2 (w.heap.size + 1) 46 #[.slice none 0 0, .slice none 0 0, .bool false, .slice none 0 0, .int .i64 0, .slice none 0 0, .int .i64 0, .slice none 0 0, .int .i64 0]) := (K2 _ (by omega)).trans br2
    have B2 : Hid (Below w.heap.size w W2) := by unfold Hid; rw [← hW2]; exact hb2.setCell (Nat.le_refl _) _
    have O2 : Hid (OwnD W2 V.heap.size w1.heap.size h1 D) := od2.same (w' := W2) (by omega) fun g a1 _ => K2 g (by omega)
    have L2 : Hid (W2.ownsRow W1.heap.size 78 10 (.slice l1 ln lc1) ln (cellsQ L)) := own_same ho fun g e => K2 g (by rw [ob_slice] at e; have := hkk g e; omega)
    have G2 : Hid (∀ g, ob l1 = some g → W1.heap.size ≤ g ∧ g < W2.heap.size) := fun g e => by have := hkk g e; have := hlt g e; omega
    have T2 : W1.heap.size < W2.heap.size := by omega
    clear x0 x1 x2 x3 x4 x5 x6 x7 x8 s0 s1 s2 s3 s4 s5 s6 s7 s8 z0 z1 z2 z3
    obtain ⟨y0, y1, y2, y3, y4, y5, y6, y7, y8⟩ := box9 bx2
    have z5 := bx2.thaw 5
    obtain ⟨x0, x1, x2, x3, x4, x5, x6, x7, x8⟩ := box9 X2.out
    clear ho hg hkk sz2 hlt bx2 br2 hb2 od2 K2 S2 X1 Y1 B1 O1 hW1)
  clear x0 x1 x2 x3 x4 x5 x6 x7 x8 y0 y1 y2 y3 y4 y5 y6 y7 y8 z5 hW2 LIT sW1
  obtain ⟨U, hU⟩ : ∃ U, W2.alloc (.cells #[] 142) = U := ⟨_, rfl⟩
  have LITF : Hid (U.ownsRow W2.heap.size 142 5 (.slice (some ⟨W2.heap.size, 0, none⟩) 0 0) 0 (cellsF [])) := by unfold Hid; rw [← hU]; exact World.ownsRow_lit W2 #[] 0 (Nat.le_refl _) (Nat.zero_le _) rfl
  have SU : W2.heap.size < U.heap.size := by rw [← hU]; simp
  have BU : Hid (Below w.heap.size w U) := by unfold Hid; rw [← hU]; exact B2.out.alloc B2.out.size _
  have KU : Hid (∀ g, g < W2.heap.size → U.heap[g]? = W2.heap[g]?) := by unfold Hid; intro g hg; rw [← hU]; exact Below.heap_alloc W2 _ g hg
  rw [hU]
  clear hU
  go_loopw [3, 4] (fun v i wr => ∃ (k : Nat) (gs : List FF) (f1 : Option Addr) (c1 : Nat), k ≤ fn ∧ i = .int .i64 k ∧ v = .slice f1 k c1 ∧ Hid (gs.length = k ∧ SameF (F.take k) gs) ∧ Hid (wr.ownsRow W2.heap.size 142 5 (.slice f1 k c1) k (cellsF gs)) ∧ Hid (OwnF wr W2.heap.size wr.heap.size gs) ∧ Hid (∀ i, i < k → ∀ g, ob (gs.getD i zeroF).h.a = some g → ob f1 ≠ some g) ∧ Hid (∀ g, g < W2.heap.size → wr.heap[g]? = W2.heap[g]?) ∧ Hid (Below w.heap.size w wr) ∧ W2.heap.size < wr.heap.size) (fun _ i _ => fn - (intOf i).toNat)
  case atStart => exact ⟨0, [], some ⟨W2.heap.size, 0, none⟩, 0, by omega, rfl, rfl, ⟨rfl, rfl⟩, LITF, fun i h => absurd h (by simp), fun i h => absurd h (by omega), KU, BU, SU⟩
  case round =>
    obtain ⟨k, gs, f1, c1, hk, rfl, rfl, HG, HR, HO, HNF, HKP, HB, hwr⟩ := hrel
    have XR : Hid (Box wr w.heap.size 46 #[.slice h1.a0 h1.n0 h1.c0, .slice h1.a1 h1.n1 h1.c1, .bool h1.b, .slice h1.a2 h1.n2 h1.c2, .int .i64 ep, .slice l1 ln lc1, .int .i64 su, .slice fa fn fc, .int .i64 ha]) := (HKP.out w.heap.size (by omega)).trans X2.out
    obtain ⟨x0, x1, x2, x3, x4, x5, x6, x7, x8⟩ := box9 XR.out
    have swr : w.heap.size < wr.heap.size := by omega
    by_cases hlt : k < fn
    · obtain ⟨b, off, rfl, hbl, hc⟩ := RF.out.2.1 (by omega)
      obtain ⟨d0, d1, d2, d3, d4⟩ := hc k hlt
      have hFl := HFL.out
      have RG : Hid (G.RdG w (F.getD k zeroF).h (F.getD k zeroF).D) := RF.out.2.2 k hlt
      have SG := HPK.out k hlt
      have FG := HF.out.2.2.2 k hlt
      obtain ⟨⟨no, hh, D1, d, fi⟩, hv⟩ : ∃ v, v = F.getD k zeroF := ⟨_, rfl⟩
      rw [← hv] at d0 d1 d2 d3 d4 RG SG FG
      dsimp only at d0 d1 d2 d3 d4 RG SG FG
      have hb := HB.out
      have e0 := (hb.cell (p := ⟨b, off + k * 5, none⟩) hbl).trans d0
      have e1 := (hb.cell (p := ⟨b, off + k * 5 + 1, none⟩) hbl).trans d1
      have e2 := (hb.cell (p := ⟨b, off + k * 5 + 2, none⟩) hbl).trans d2
      have e3 := (hb.cell (p := ⟨b, off + k * 5 + 3, none⟩) hbl).trans d3
      have e4 := (hb.cell (p := ⟨b, off + k * 5 + 4, none⟩) hbl).trans d4
      have C : Hid (∀ W, Below w.heap.size w W → Calls Tryz.prog 178 #[.agg #[.int .i64 hh.l, .slice hh.a hh.n hh.c]] W fun e w' => (∃ h' : G.HG, e = .returned (.agg #[.int .i64 h'.l, .slice h'.a h'.n h'.c]) ∧ G.OwnG w' W.heap.size w'.heap.size h' D1) ∧ Below W.heap.size W w') := fun W hW => G.c_own hh D1 W (RG.out.below hW) SG FG
      have HSM : Hid (∀ h' : G.HG, SameF (F.take (k + 1)) (gs ++ [⟨no, h', D1, d, fi⟩])) := fun h' => by
        unfold SameF
        rw [List.take_add_one, List.map_append, List.map_append, HG.out.2]
        have e : F[k]? = some ⟨no, hh, D1, d, fi⟩ := by
          rw [List.getD_eq_getElem?_getD, List.getElem?_eq_getElem (by omega)] at hv
          rw [List.getElem?_eq_getElem (by omega)]
          exact congrArg some hv.symm
        rw [e]
        rfl
      have HGL : Hid (gs.length = k) := HG.out.1
      have g1 : (0 : Int) ≤ (k : Int) := by omega
      have g2 : (k : Int) < (fn : Int) := by omega
      have hbr : b < wr.heap.size := by omega
      clear hc hv RG SG FG d0 d1 d2 d3 d4 hb HG
      obtain ⟨Wf, hWf⟩ : ∃ Wf, wr.alloc (.cells #[.int .i64 no, .int .i64 hh.l, .slice hh.a hh.n hh.c, .bool d, .int .i64 fi] 142) = Wf := ⟨_, rfl⟩
      have BF : Hid (Below w.heap.size w Wf) := by unfold Hid; rw [← hWf]; exact HB.out.alloc HB.out.size _
      have XF : Hid (Box Wf wr.heap.size 142 #[.int .i64 no, .int .i64 hh.l, .slice hh.a hh.n hh.c, .bool d, .int .i64 fi]) := by unfold Hid; rw [← hWf]; exact Box.new _ _ _
      have SF0 : Hid (Wf.heap.size = wr.heap.size + 1) := by unfold Hid; rw [← hWf]; simp
      have KF : Hid (∀ g, g < wr.heap.size → Wf.heap[g]? = wr.heap[g]?) := by unfold Hid; intro g hg; rw [← hWf]; exact Below.heap_alloc wr _ g hg
      obtain ⟨m0, m1, m2, m3, m4⟩ := box5 XF.out
      go_wp2_with fail
      refine (C.out _ BF.out).mono ?_
      rintro e w3 ⟨⟨h', rfl, og⟩, hb3⟩
      have s3 : Wf.heap.size ≤ w3.heap.size := hb3.size
      have s4 : wr.heap.size < w3.heap.size := by have := SF0.out; omega
      have x3 := XF.out.belowS hb3
      obtain ⟨V3, hV3⟩ : ∃ V3, (w3.setCell ⟨wr.heap.size, 1, none⟩ (.int .i64 h'.l)).setCell ⟨wr.heap.size, 2, none⟩ (.slice h'.a h'.n h'.c) = V3 := ⟨_, rfl⟩
      have X3 : Hid (Box V3 wr.heap.size 142 #[.int .i64 no, .int .i64 h'.l, .slice h'.a h'.n h'.c, .bool d, .int .i64 fi]) := by
        have := (x3.set 1 (.int .i64 h'.l)).set 2 (.slice h'.a h'.n h'.c)
        rw [hV3] at this
        simpa [Hid] using this
      have K3 : Hid (∀ g, g ≠ wr.heap.size → V3.heap[g]? = w3.heap[g]?) := by unfold Hid; intro g hg; rw [← hV3, Below.heap_setCell _ _ _ _ hg, Below.heap_setCell _ _ _ _ hg]
      have S3 : V3.heap.size = w3.heap.size := by rw [← hV3]; simp
      have HB3 : Below w.heap.size w w3 := BF.out.trans (hb3.mono BF.out.size)
      have B3 : Hid (Below w.heap.size w V3) := by unfold Hid; rw [← hV3]; exact (HB3.setCell (show w.heap.size ≤ wr.heap.size by omega) _).setCell (show w.heap.size ≤ wr.heap.size by omega) _
      have KW : Hid (∀ g, g < wr.heap.size → V3.heap[g]? = wr.heap[g]?) := fun g hg => ((K3.out g (by omega)).trans (hb3.block g (by have := SF0.out; omega))).trans (KF.out g hg)
      have OG : Hid (G.OwnG V3 (wr.heap.size + 1) w3.heap.size h' D1) := by
        unfold Hid
        rw [← SF0.out]
        exact og.same (w' := V3) (by omega) fun g a1 _ => K3.out g (by have := SF0.out; omega)
      have HF1 : Hid (∀ g, ob f1 = some g → W2.heap.size ≤ g ∧ g < wr.heap.size) := fun g e => HR.out.lt g (by rw [ob_slice]; exact e)
      have R3 : Hid ((V3.alloc (.cells #[.int .i64 no, .int .i64 h'.l, .slice h'.a h'.n h'.c, .bool d, .int .i64 fi] 142)).ownsRow W2.heap.size 142 5 (.slice f1 k c1) k (cellsF gs)) := own_same HR.out fun g e => by
        rw [ob_slice] at e
        have := HF1.out g e
        rw [Below.heap_alloc V3 _ g (by omega)]
        exact KW.out g this.2
      have NW : Hid (∀ ad, some (⟨w3.heap.size, 0, none⟩ : Addr) = some ad → ∀ j u, (cF ⟨no, h', D1, d, fi⟩)[j]? = some u → (V3.alloc (.cells #[.int .i64 no, .int .i64 h'.l, .slice h'.a h'.n h'.c, .bool d, .int .i64 fi] 142)).cell? (ad.add j) = some u) := by
        intro ad e j u hj
        cases e
        obtain ⟨n0, n1, n2, n3, n4⟩ := box5 (Box.new V3 #[.int .i64 no, .int .i64 h'.l, .slice h'.a h'.n h'.c, .bool d, .int .i64 fi] 142)
        rw [S3] at n0 n1 n2 n3 n4
        match j, hj with
        | 0, hj => cases hj; exact n0
        | 1, hj => cases hj; exact n1
        | 2, hj => cases hj; exact n2
        | 3, hj => cases hj; exact n3
        | 4, hj => cases hj; exact n4
        | j + 5, hj => simp [cF] at hj
      have ONE : Hid (∀ u ∈ cF ⟨no, h', D1, d, fi⟩, u.oneCell' = true) := by
        have := cellsF_one [⟨no, h', D1, d, fi⟩]
        simpa [Hid, cellsF] using this
      obtain ⟨m0, m1, m2, m3, m4⟩ := box5 x3
      have z1 := x3.thaw 1
      have z2 := x3.thaw 2
      obtain ⟨n0, n1, n2, n3, n4⟩ := box5 X3.out
      have HK1 : k + 1 ≤ fn := hlt
      clear hb3 og x3 HB3
      clear XF BF KF SF0
      clear hWf
      clear C
      clear x0 x1 x2 x3 x4 x5 x6 x7 x8
      clear e0 e1 e2 e3 e4
      go_wp2_with (
        at_builtin; refine app_any _ rfl (.tmp 32) (.tmp 34) 44 rfl W2.heap.size 142 iF (.agg #[.int .i64 0, .int .i64 0, .slice none 0 0, .bool false, .int .i64 0]) 5 56 Tryz.underlying44 hiF.out hzF0.out hzF1.out hzF2.out rfl (by omega) (.slice f1 k c1) k (cellsF gs) rfl R3.out (some ⟨w3.heap.size, 0, none⟩) 1 1 (cF ⟨no, h', D1, d, fi⟩) rfl (fun e => by cases e) rfl NW.out ONE.out (by unfold maxLen; omega) (by omega) (by simp; omega) ?_
        intro f2 c2 w4 ho hg hk0
        have BB : Hid (Below w.heap.size w w4) := (B3.out.alloc B3.out.size _).grown hg (by simp; omega) (fun g e => by rw [ob_slice] at e; have := HF1.out g e; omega)
        have sz4 : w3.heap.size < w4.heap.size := by have := hg.size; simp at this; omega
        have hkk : ∀ g, ob f2 = some g → ob f1 = some g ∨ w3.heap.size < g := fun g e => by
          rcases hk0 g e with q | q
          · rw [ob_slice] at q; exact Or.inl q
          · right; simp at q; omega
        have K4 : ∀ g, g < w3.heap.size → ob f1 ≠ some g → w4.heap[g]? = V3.heap[g]? := fun g h1 h2 => (hg.block g (by simp; omega) (fun e => h2 (by rw [← ob_slice]; exact e.symm))).trans (Below.heap_alloc V3 _ g (by omega))
        have RR : Hid (w4.ownsRow W2.heap.size 142 5 (.slice f2 (k + 1) c2) (k + 1) (cellsF (gs ++ [⟨no, h', D1, d, fi⟩]))) := by
          unfold Hid
          have e : cellsF (gs ++ [⟨no, h', D1, d, fi⟩]) = cellsF gs ++ cF ⟨no, h', D1, d, fi⟩ := by unfold cellsF; simp
          rw [e]; exact ho
        have GG : Hid ((gs ++ [(⟨no, h', D1, d, fi⟩ : FF)]).length = k + 1 ∧ SameF (F.take (k + 1)) (gs ++ [⟨no, h', D1, d, fi⟩])) := ⟨by rw [List.length_append, HGL.out]; rfl, HSM.out h'⟩
        have hgl := HGL.out
        have OO : Hid (OwnF w4 W2.heap.size w4.heap.size (gs ++ [⟨no, h', D1, d, fi⟩])) := fun i hi => by
          rw [List.length_append, List.length_singleton] at hi
          rw [getD_app]
          by_cases e : i < gs.length
          · rw [if_pos e]
            have q := HO.out i e
            exact (ownG_keep q (w' := w4) (by omega) fun g e' => (K4 g (by have := q.2.2.2 g e'; omega) (HNF.out i (by omega) g e')).trans (KW.out g (q.2.2.2 g e').2)).wide (Nat.le_refl _)
          · rw [if_neg e, if_pos (by omega)]
            exact (ownG_keep OG.out (w' := w4) (by omega) fun g e' => K4 g (OG.out.2.2.2 g e').2 (fun e2 => by have := HF1.out g e2; have := OG.out.2.2.2 g e'; omega)).wide (by omega)
        have NN : Hid (∀ i, i < k + 1 → ∀ g, ob ((gs ++ [(⟨no, h', D1, d, fi⟩ : FF)]).getD i zeroF).h.a = some g → ob f2 ≠ some g) := fun i hi g e' e2 => by
          rw [getD_app] at e'
          by_cases e : i < gs.length
          · rw [if_pos e] at e'
            have q := (HO.out i e).2.2.2 g e'
            rcases hkk g e2 with a | a
            · exact HNF.out i (by omega) g e' a
            · omega
          · rw [if_neg e, if_pos (by omega)] at e'
            have q := OG.out.2.2.2 g e'
            rcases hkk g e2 with a | a
            · have := HF1.out g a; omega
            · omega
        have KK : Hid (∀ g, g < W2.heap.size → w4.heap[g]? = W2.heap[g]?) := fun g h => ((K4 g (by omega) (fun e => by have := HF1.out g e; omega)).trans (KW.out g (by omega))).trans (HKP.out g h)
        have T4 : W2.heap.size < w4.heap.size := by omega
        clear ho hg hk0 hkk K4 hgl)
      go_roundw
      case rel => exact ⟨k + 1, gs ++ [⟨no, h', D1, d, fi⟩], f2, c2, HK1, by go_num, rfl, GG, RR, OO, NN, KK, BB, T4⟩
      case measure => simp [intOf]; omega
    · have e : k = fn := by omega
      subst e
      have hs := HG.out.2
      rw [List.take_of_length_le (by have := HFL.out; omega)] at hs
      have HS : Hid (SameF F gs) := hs
      have HGL : Hid (gs.length = k) := HG.out.1
      have hge : ¬ (k : Int) < (k : Int) := by omega
      have HF1 : Hid (∀ g, ob f1 = some g → W2.heap.size ≤ g ∧ g < wr.heap.size) := fun g e => HR.out.lt g (by rw [ob_slice]; exact e)
      obtain ⟨V3, hV3⟩ : ∃ V3, wr.setCell ⟨w.heap.size, 7, none⟩ (.slice f1 k c1) = V3 := ⟨_, rfl⟩
      have X3 : Hid (Box V3 w.heap.size 46 #[.slice h1.a0 h1.n0 h1.c0, .slice h1.a1 h1.n1 h1.c1, .bool h1.b, .slice h1.a2 h1.n2 h1.c2, .int .i64 ep, .slice l1 ln lc1, .int .i64 su, .slice f1 k c1, .int .i64 ha]) := by have := XR.out.set 7 (.slice f1 k c1); rw [hV3] at this; simpa [Hid] using this
      have K3 : Hid (∀ g, g ≠ w.heap.size → V3.heap[g]? = wr.heap[g]?) := by unfold Hid; intro g hg; rw [← hV3, Below.heap_setCell _ _ _ _ hg]
      have S3 : V3.heap.size = wr.heap.size := by rw [← hV3]; simp
      have B3 : Hid (Below w.heap.size w V3) := by unfold Hid; rw [← hV3]; exact HB.out.setCell (Nat.le_refl _) _
      have YR : Hid (Box V3 (w.heap.size + 1) 46 #[.slice none 0 0, .slice none 0 0, .bool false, .slice none 0 0, .int .i64 0, .slice none 0 0, .int .i64 0, .slice none 0 0, .int .i64 0]) := ((K3.out _ (by omega)).trans (HKP.out (w.heap.size + 1) (by omega))).trans Y2.out
      have z7 := XR.out.thaw 7
      obtain ⟨s0, s1, s2, s3, s4, s5, s6, s7, s8⟩ := box9 X3.out
      obtain ⟨y0, y1, y2, y3, y4, y5, y6, y7, y8⟩ := box9 YR.out
      have t0 := YR.out.thaw 0
      have t1 := YR.out.thaw 1
      have t2 := YR.out.thaw 2
      have t3 := YR.out.thaw 3
      have t4 := YR.out.thaw 4
      have t5 := YR.out.thaw 5
      have t6 := YR.out.thaw 6
      have t7 := YR.out.thaw 7
      have t8 := YR.out.thaw 8
      clear hs HG XR
      go_wp2
      have KP : ∀ g, g ≠ w.heap.size → g ≠ w.heap.size + 1 → ((((((((((V3.setCell ⟨(w.heap.size + 1), 0, none⟩ (.slice h1.a0 h1.n0 h1.c0)).setCell ⟨(w.heap.size + 1), 1, none⟩ (.slice h1.a1 h1.n1 h1.c1)).setCell ⟨(w.heap.size + 1), 2, none⟩ (.bool h1.b)).setCell ⟨(w.heap.size + 1), 3, none⟩ (.slice h1.a2 h1.n2 h1.c2)).setCell ⟨(w.heap.size + 1), 4, none⟩ (.int .i64 ep)).setCell ⟨(w.heap.size + 1), 5, none⟩ (.slice l1 ln lc1)).setCell ⟨(w.heap.size + 1), 6, none⟩ (.int .i64 su)).setCell ⟨(w.heap.size + 1), 7, none⟩ (.slice f1 k c1)).setCell ⟨(w.heap.size + 1), 8, none⟩ (.int .i64 ha))).heap[g]? = wr.heap[g]? := fun g a b => (put9_same _ _ _ _ _ _ _ _ _ _ _ _ b).trans (K3.out g a)
      have sB := B3.out.size
      refine ret9 Tryz.results94 rfl rfl (put9_box YR.out _ _ _ _ _ _ _ _ _) ⟨⟨h1, l1, lc1, f1, ⟨c1, rfl⟩, gs, HS.out, W1.heap.size, by omega, W2.heap.size, by simp; omega, ⟨?_, fun g e => G2.out g e⟩, ?_⟩, put9_below B3.out (by omega) _ _ _ _ _ _ _ _ _⟩
      · exact own_same L2.out fun g e => by
          rw [ob_slice] at e
          have := G2.out g e
          exact (KP g (by omega) (by omega)).trans (HKP.out g (by omega))
      · intro W hsz hsm
        have hsz' : wr.heap.size ≤ W.heap.size := by simp at hsz; omega
        have hsm' : ∀ g, g < wr.heap.size → (g < W1.heap.size ∨ W2.heap.size ≤ g) → w.heap.size < g → g ≠ w.heap.size + 1 → W.heap[g]? = wr.heap[g]? := fun g a b c d => (hsm g (by omega) (by simp; omega) b).trans (KP g (by omega) d)
        refine ⟨(O2.out.same (w' := W) (by omega) fun g a b => (hsm' g (by omega) (by omega) (by omega) (by omega)).trans (HKP.out g (by omega))).rd, ?_⟩
        have of : OwnF W W2.heap.size wr.heap.size gs := fun i hi => ownG_keep (HO.out i hi) hsz' fun g e => by
          have := (HO.out i hi).2.2.2 g e
          exact hsm' g (by omega) (by omega) (by omega) (by omega)
        exact of.rdF (own_same HR.out fun g e => by
          rw [ob_slice] at e
          have := HF1.out g e
          exact hsm' g (by omega) (by omega) (by omega) (by omega))

end Go.Proofs.YtkpopingbbaomaaGreatDoor
