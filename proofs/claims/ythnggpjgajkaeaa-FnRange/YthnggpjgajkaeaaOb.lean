/-
  Marks that are written into a tree's copy: they touch nothing else.
-/
import Derived.Test.YthnggpjgajkaeaaOa
import Derived.Test.YthnggpjgajkaeaaMf
namespace Go.Proofs.Ythnggpjgajkaeaa
open Go Go.RowKit
attribute [local go_sem ↓] Go.wp_at_zero Go.wp_at_succ

theorem own_ne {w : World} {B B' n n' c c' e e' : Nat} {a a' : Option Addr} {m m' : Nat} {xs ys : List Value} (h : w.ownsRow B e 1 (.slice a m c) n xs) (h' : w.ownsRow B' e' 1 (.slice a' m' c') n' ys) (hee : e ≠ e') : ∀ g, ob a = some g → ob a' ≠ some g := by
  intro g h1 h2
  rcases h.2 with ⟨hv, _⟩ | ⟨q, cap, cur, hv, _, hg, _⟩
  · simp only [Value.slice.injEq] at hv; obtain ⟨rfl, _, _⟩ := hv; cases h1
  · simp only [Value.slice.injEq] at hv
    obtain ⟨rfl, _, _⟩ := hv
    have e1 : q = g := by have : some q = some g := h1; exact Option.some.inj this
    subst e1
    rcases h'.2 with ⟨hv', _⟩ | ⟨q', cap', cur', hv', _, hg', _⟩
    · simp only [Value.slice.injEq] at hv'; obtain ⟨rfl, _, _⟩ := hv'; cases h2
    · simp only [Value.slice.injEq] at hv'
      obtain ⟨rfl, _, _⟩ := hv'
      have e2 : q' = q := by have : some q' = some q := h2; exact Option.some.inj this
      subst e2
      rw [hg] at hg'
      simp only [Option.some.injEq, Obj.cells.injEq] at hg'
      exact hee hg'.2.1
/-- The row of nodes: its slices are those of gs, whatever else it holds. -/
def RowW (w : World) (B x n : Nat) (gs : List TNode) : Prop := ∃ xs, w.ownsRow B 72 3 (.slice (some ⟨x, 0, none⟩) n n) n xs ∧ ∀ j, j < n → xs[j * 3 + 1]? = some (.slice (gs.getD j zeroN).ka (gs.getD j zeroN).kn (gs.getD j zeroN).kc) ∧ xs[j * 3 + 2]? = some (.slice (gs.getD j zeroN).ia (gs.getD j zeroN).im (gs.getD j zeroN).ic)
theorem RowW.of {w : World} {B x n : Nat} {gs : List TNode} (h : w.ownsRow B 72 3 (.slice (some ⟨x, 0, none⟩) n n) n (cellsN gs)) : RowW w B x n gs := by
  have hl : gs.length = n := by have := h.1; rw [cellsN_len] at this; omega
  exact ⟨_, h, fun j hj => ⟨(cellsN_get gs j (by omega) 1 (by omega)).trans rfl, (cellsN_get gs j (by omega) 2 (by omega)).trans rfl⟩⟩
theorem RowW.same {w w' : World} {B x n : Nat} {gs : List TNode} (h : RowW w B x n gs) (hs : w'.heap[x]? = w.heap[x]?) : RowW w' B x n gs := by
  obtain ⟨xs, h1, h2⟩ := h
  exact ⟨xs, own_same h1 fun g e => by cases e; exact hs, h2⟩
theorem RowW.set {w : World} {B x n : Nat} {gs : List TNode} (h : RowW w B x n gs) (i : Nat) (b : Bool) : RowW (w.setCell ⟨x, i * 3, none⟩ (.bool b)) B x n gs := by
  obtain ⟨xs, h1, h2⟩ := h
  refine ⟨_, (h1.stored (i * 3) (.bool b)).1, fun j hj => ?_⟩
  rw [List.getElem?_set_ne (by omega), List.getElem?_set_ne (by omega)]
  exact h2 j hj
theorem RowW.cells {w : World} {B x n : Nat} {gs : List TNode} (h : RowW w B x n gs) {i : Nat} (hi : i < n) : (∃ u, w.cell? ⟨x, i * 3, none⟩ = some u) ∧ w.frozen? ⟨x, i * 3, none⟩ = false ∧ w.cell? ⟨x, i * 3 + 1, none⟩ = some (.slice (gs.getD i zeroN).ka (gs.getD i zeroN).kn (gs.getD i zeroN).kc) ∧ w.cell? ⟨x, i * 3 + 2, none⟩ = some (.slice (gs.getD i zeroN).ia (gs.getD i zeroN).im (gs.getD i zeroN).ic) := by
  obtain ⟨xs, h1, h2⟩ := h
  have hl : xs.length = n * 3 := h1.1
  exact ⟨⟨_, (h1.cellAt (i * 3) (by omega)).trans (List.getElem?_eq_getElem (by omega))⟩, h1.frozenAt _, (h1.cellAt (i * 3 + 1) (by omega)).trans (h2 i hi).1, (h1.cellAt (i * 3 + 2) (by omega)).trans (h2 i hi).2⟩
/-- A copy's memory as marks find it. -/
structure MkT (w : World) (B x n : Nat) (bs : Nat → Nat) (gs : List TNode) : Prop where
  row : RowW w B x n gs
  lists : ∀ i, i < n → AnyN1 w (bs i) (bs (i + 1)) (gs.getD i zeroN)
  mono : ∀ i, i < n → bs i ≤ bs (i + 1)
  first : bs 0 = x + 1
theorem MkT.le {w : World} {B x n : Nat} {bs : Nat → Nat} {gs : List TNode} (h : MkT w B x n bs gs) {i j : Nat} (hij : i ≤ j) (hj : j ≤ n) : bs i ≤ bs j := by
  induction j with
  | zero =>
    have e : i = 0 := by omega
    rw [e]; exact Nat.le_refl _
  | succ j ih =>
    by_cases e : i = j + 1
    · rw [e]; exact Nat.le_refl _
    · exact Nat.le_trans (ih (by omega) (by omega)) (h.mono j (by omega))
theorem MkT.setLeaf {w : World} {B x n : Nat} {bs : Nat → Nat} {gs : List TNode} (h : MkT w B x n bs gs) (i : Nat) (b : Bool) : MkT (w.setCell ⟨x, i * 3, none⟩ (.bool b)) B x n bs gs :=
  ⟨h.row.set i b, fun j hj => (h.lists j hj).same fun g h1 _ => Below.heap_setCell w _ _ g (by have := h.le (Nat.zero_le j) (by omega); have := h.first; dsimp only; omega), h.mono, h.first⟩
theorem MkT.one {w w' : World} {B x n : Nat} {bs : Nat → Nat} {gs : List TNode} (h : MkT w B x n bs gs) {i : Nat} (hi : i < n) {row : Option Nat} (hg : w.grownBy w' row) (hr : ∀ g, row = some g → bs i ≤ g ∧ g < bs (i + 1)) (hE : bs n ≤ w.heap.size) (hx : x < w.heap.size) (hn : AnyN1 w' (bs i) (bs (i + 1)) (gs.getD i zeroN)) : MkT w' B x n bs gs ∧ Inn x (bs n) w w' := by
  have f0 := h.le (Nat.zero_le i) (by omega)
  have f1 := h.le (show i + 1 ≤ n by omega) (Nat.le_refl _)
  have ff := h.first
  refine ⟨⟨h.row.same (hg.block x hx (fun e => by have := hr x e.symm; omega)), fun j hj => ?_, h.mono, h.first⟩, Inn.of_grown hg fun g e => by have := hr g e; omega⟩
  by_cases e : j = i
  · subst e; exact hn
  · refine (h.lists j hj).same fun g h1 h2 => ?_
    have f2 := h.le (show j + 1 ≤ n by omega) (Nat.le_refl _)
    refine hg.block g (by omega) fun q => ?_
    have q1 := hr g q.symm
    rcases Nat.lt_or_gt_of_ne e with hlt | hgt
    · have := h.le (show j + 1 ≤ i by omega) (by omega); omega
    · have := h.le (show i + 1 ≤ j by omega) (by omega); omega
set_option maxRecDepth 100000 in
set_option maxHeartbeats 8000000 in
theorem c_markNW (B x n cp : Nat) (bs : Nat → Nat) (gs : List TNode) (w : World) (h : MkT w B x n bs gs) (hcp : cp = n) (hn : n ≤ 1048576) (hf : ∀ i, i < n → FitN (gs.getD i zeroN)) (hE : bs n ≤ w.heap.size) (hx : x < w.heap.size) :
    Calls Try.prog 53 #[.slice (some ⟨x, 0, none⟩) n cp, .int .i64 1] w fun e w' => (∃ k : Nat, e = .returned (.int .i64 k) ∧ k ≤ 576460752303423488) ∧ Inn x (bs n) w w' := by
  subst hcp
  have HF : Hid (∀ i, i < cp → FitN (gs.getD i zeroN)) := hf
  have HE : Hid (bs cp ≤ w.heap.size) := hE
  have HX : Hid (x < w.heap.size) := hx
  have HM : Hid (MkT w B x cp bs gs) := h
  clear h hf hE hx
  go_enter Try.func53, Try.ntmps53
  go_wp2
  go_loopw [1, 5] (fun k i wr => ∃ (j m : Nat), j ≤ cp ∧ i = .int .i64 j ∧ k = .int .i64 m ∧ 1 ≤ m ∧ m ≤ 1 + j * 2097153 ∧ Hid (MkT wr B x cp bs gs) ∧ Hid (Inn x (bs cp) w wr)) (fun _ i _ => cp - (intOf i).toNat)
  case atStart => exact ⟨0, 1, by omega, rfl, rfl, by omega, by omega, HM.out, Inn.of_below (Below.refl _ _)⟩
  case round =>
    obtain ⟨j, m, hj, rfl, rfl, hm1, hm2, MT, IW⟩ := hrel
    by_cases hlt : j < cp
    · obtain ⟨⟨u, c0⟩, t0, _, _⟩ := MT.out.row.cells hlt
      have hfj := HF.out j hlt
      obtain ⟨⟨lf, ka, kn, kc, ks, ia, im, ic, js⟩, hv⟩ : ∃ v, gs.getD j zeroN = v := ⟨_, rfl⟩
      have HV : Hid (gs.getD j zeroN = ⟨lf, ka, kn, kc, ks, ia, im, ic, js⟩) := hv
      rw [hv] at hfj
      have f1 : kn ≤ 1048576 := hfj.1
      have f2 : im ≤ 1048576 := hfj.2.1
      obtain ⟨b, hb⟩ : ∃ b : Bool, b = ((m : Int) % 3 == 0) := ⟨_, rfl⟩
      obtain ⟨V, hV⟩ : ∃ V, wr.setCell ⟨x, j * 3, none⟩ (.bool ((m : Int) % 3 == 0)) = V := ⟨_, rfl⟩
      have MV : Hid (MkT V B x cp bs gs) := by unfold Hid; rw [← hV]; exact MT.out.setLeaf j _
      have IV : Hid (Inn x (bs cp) w V) := by
        unfold Hid
        rw [← hV]
        have q := MT.out.le (Nat.zero_le cp) (Nat.le_refl _)
        have q0 := MT.out.first
        exact IW.out.setR _ _ (.inr ⟨Nat.le_refl _, by dsimp only; omega⟩)
      obtain ⟨_, _, c1, _⟩ := MV.out.row.cells hlt
      rw [hv] at c1
      dsimp only at c1
      obtain ⟨⟨xs, o1⟩, ⟨ys, o2⟩, b1, b2⟩ := MV.out.lists j hlt
      rw [hv] at o1 o2 b1 b2
      dsimp only at o1 o2 b1 b2
      have C1 := c_markSW (bs j) (.slice ka kn kc) kn (m + 1) xs V o1 (by omega) (by omega) (by omega)
      have HO2 : Hid (V.ownsRow (bs j) 3 1 (.slice ia im ic) im ys) := o2
      have HO1 : Hid (V.ownsRow (bs j) 9 1 (.slice ka kn kc) kn xs) := o1
      have HB1 : Hid (∀ g, ob ka = some g → bs j ≤ g ∧ g < bs (j + 1)) := b1
      have HB2 : Hid (∀ g, ob ia = some g → bs j ≤ g ∧ g < bs (j + 1)) := b2
      have SV : Hid (w.heap.size ≤ V.heap.size) := IV.out.size
      have w1 : ((m + 1 : Nat) : Int) = (m : Int) + 1 := by omega
      rw [w1] at C1
      clear hv o1 o2 b1 b2 hfj MT IW hb w1
      go_wp2_with fail
      refine C1.mono ?_
      rintro e w2 ⟨rfl, ho1, hg1⟩
      rw [ob_slice] at hg1
      have hO2' : w2.ownsRow (bs j) 3 1 (.slice ia im ic) im ys := HO2.out.kept hg1 (by
        rw [ob_slice]
        cases e : ob ia with
        | none => exact .inl rfl
        | some g => exact .inr fun q => own_ne HO1.out HO2.out (by decide) g q.symm e)
      have AN : AnyN1 w2 (bs j) (bs (j + 1)) (gs.getD j zeroN) := by rw [HV.out]; exact ⟨⟨_, ho1⟩, ⟨_, hO2'⟩, HB1.out, HB2.out⟩
      obtain ⟨MT2, IN2⟩ := MV.out.one hlt hg1 HB1.out (by have := HE.out; have := SV.out; omega) (by have := HX.out; have := SV.out; omega) AN
      have M2 : Hid (MkT w2 B x cp bs gs) := MT2
      have I2 : Hid (Inn x (bs cp) w w2) := IV.out.trans IN2
      have O1' : Hid (w2.ownsRow (bs j) 9 1 (.slice ka kn kc) kn (marksS (m + 1) kn)) := ho1
      have O2' : Hid (w2.ownsRow (bs j) 3 1 (.slice ia im ic) im ys) := hO2'
      obtain ⟨_, _, _, c2⟩ := MT2.row.cells hlt
      rw [HV.out] at c2
      dsimp only at c2
      have S2 : Hid (w.heap.size ≤ w2.heap.size) := I2.out.size
      have C2 := c_markI (bs j) (.slice ia im ic) im (m + 1 + kn) ys w2 hO2' (by omega) (by omega)
      clear ho1 hg1 hO2' AN MT2 IN2 C1 MV IV hV c0 t0 c1 HO1 HO2
      go_wp2_with fail
      refine C2.mono ?_
      rintro e w3 ⟨rfl, ho2, hg2⟩
      rw [ob_slice] at hg2
      have hO1' : w3.ownsRow (bs j) 9 1 (.slice ka kn kc) kn (marksS (m + 1) kn) := O1'.out.kept hg2 (by
        rw [ob_slice]
        cases e : ob ka with
        | none => exact .inl rfl
        | some g => exact .inr fun q => own_ne O2'.out O1'.out (by decide) g q.symm e)
      have AN : AnyN1 w3 (bs j) (bs (j + 1)) (gs.getD j zeroN) := by rw [HV.out]; exact ⟨⟨_, hO1'⟩, ⟨_, ho2⟩, HB1.out, HB2.out⟩
      obtain ⟨MT3, IN3⟩ := M2.out.one hlt hg2 HB2.out (by have := HE.out; have := S2.out; omega) (by have := HX.out; have := S2.out; omega) AN
      have M3 : Hid (MkT w3 B x cp bs gs) := MT3
      have I3 : Hid (Inn x (bs cp) w w3) := I2.out.trans IN3
      clear ho2 hg2 hO1' AN MT3 IN3 C2 M2 I2 c2 O1' O2'
      go_wp2
      go_roundw
      case rel => exact ⟨j + 1, m + 1 + kn + im, by omega, by go_num, rfl, by omega, by omega, M3.out, I3.out⟩
      case measure => simp [intOf]; omega
    · have e : j = cp := by omega
      subst e
      go_wp2
      go_ret
      exact ⟨⟨m, rfl, by omega⟩, IW.out⟩
set_option maxRecDepth 100000 in
set_option maxHeartbeats 8000000 in
theorem c_markTW (ro : Int) (B x n : Nat) (bs : Nat → Nat) (gs : List TNode) (w : World) (h : MkT w B x n bs gs) (hn : n ≤ 1048576) (hf : ∀ i, i < n → FitN (gs.getD i zeroN)) (hE : bs n ≤ w.heap.size) (hx : x < w.heap.size) :
    Calls Try.prog 25 #[.agg #[.int .i64 ro, .slice (some ⟨x, 0, none⟩) n n], .int .i64 1] w fun e w' => (∃ k : Nat, e = .returned (.int .i64 k) ∧ k ≤ 576460752303423488) ∧ Inn x (bs n) w w' := by
  obtain ⟨V, hV⟩ : ∃ Q, w.alloc (.cells #[.int .i64 ro, .slice (some ⟨x, 0, none⟩) n n] 27) = Q := ⟨_, rfl⟩
  have bV : Below w.heap.size w V := by rw [← hV]; exact (Below.refl _ _).alloc (Nat.le_refl _) _
  have XV : Hid (Box V w.heap.size 27 #[.int .i64 ro, .slice (some ⟨x, 0, none⟩) n n]) := by unfold Hid; rw [← hV]; exact Box.new _ _ _
  have x1 : V.cell? ⟨w.heap.size, 1, none⟩ = some (.slice (some ⟨x, 0, none⟩) n n) := XV.out.cell 1
  have IV : Hid (Inn x (bs n) w V) := Inn.of_below bV
  have MV : MkT V B x n bs gs := ⟨h.row.same (bV.block x hx), fun i hi => (h.lists i hi).same fun g _ h2 => bV.block g (by have := h.le (show i + 1 ≤ n by omega) (Nat.le_refl _); omega), h.mono, h.first⟩
  have C := c_markNW B x n n bs gs V MV rfl hn hf (by have := bV.size; omega) (by have := bV.size; omega)
  clear bV h hf MV
  go_enter Try.func25, Try.ntmps25
  go_wp2_with fail
  refine C.mono ?_
  rintro e w1 ⟨⟨k, rfl, hk⟩, hi⟩
  have I1 : Hid (Inn x (bs n) w w1) := IV.out.trans hi
  clear hi C
  go_wp2
  go_ret
  exact ⟨⟨k, rfl, hk⟩, I1.out⟩

end Go.Proofs.Ythnggpjgajkaeaa
