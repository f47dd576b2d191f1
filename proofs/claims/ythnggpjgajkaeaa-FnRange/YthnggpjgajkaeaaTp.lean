/-
  A list of nodes copied.
-/
import Derived.Test.YthnggpjgajkaeaaTo
namespace Go.Proofs.Ythnggpjgajkaeaa
open Go Go.RowKit
attribute [local go_sem ↓] Go.wp_at_zero Go.wp_at_succ

def cellsN (vs : List TNode) : List Value := vs.flatMap cN
theorem cellsN_len (vs : List TNode) : (cellsN vs).length = vs.length * 3 := by
  induction vs with
  | nil => rfl
  | cons v vs ih => rw [show cellsN (v :: vs) = cN v ++ cellsN vs from rfl, List.length_append, ih, List.length_cons]; simp only [cN, List.length_cons, List.length_nil]; omega
theorem cellsN_get : ∀ (vs : List TNode) (i : Nat), i < vs.length → ∀ j, j < 3 → (cellsN vs)[i * 3 + j]? = (cN (vs.getD i zeroN))[j]?
  | v :: vs, 0, _, j, hj => by
    rw [show cellsN (v :: vs) = cN v ++ cellsN vs from rfl, List.getElem?_append_left (by simp [cN]; omega)]
    simp
  | v :: vs, i + 1, h, j, hj => by
    have ih := cellsN_get vs i (by simpa using h) j hj
    rw [show cellsN (v :: vs) = cN v ++ cellsN vs from rfl, List.getElem?_append_right (by simp [cN]; omega), show (i + 1) * 3 + j - (cN v).length = i * 3 + j by simp [cN]; omega, ih]
    rfl
def setN (L : List Value) (o : Nat) (v : TNode) : List Value := ((L.set o (.bool v.lf)).set (o + 1) (.slice v.ka v.kn v.kc)).set (o + 2) (.slice v.ia v.im v.ic)
theorem setN_cons (x : Value) (L : List Value) (o : Nat) (v : TNode) : setN (x :: L) (o + 1) v = x :: setN L o v := rfl
theorem cellsN_set : ∀ (vs : List TNode) (i : Nat) (v : TNode), i < vs.length → setN (cellsN vs) (i * 3) v = cellsN (vs.set i v)
  | u :: vs, 0, v, _ => rfl
  | u :: vs, i + 1, v, h => by
    have ih := cellsN_set vs i v (by simpa using h)
    rw [show cellsN (u :: vs) = .bool u.lf :: .slice u.ka u.kn u.kc :: .slice u.ia u.im u.ic :: cellsN vs from rfl, show (i + 1) * 3 = i * 3 + 1 + 1 + 1 by omega]
    rw [setN_cons, setN_cons, setN_cons, ih]
    rfl
theorem own_putN {w : World} {base e g n cap : Nat} {vs : List TNode} (h : w.ownsRow base e 3 (.slice (some ⟨g, 0, none⟩) n cap) n (cellsN vs)) (i : Nat) (v : TNode) (hi : i < vs.length) :
    (((w.setCell ⟨g, i * 3, none⟩ (.bool v.lf)).setCell ⟨g, i * 3 + 1, none⟩ (.slice v.ka v.kn v.kc)).setCell ⟨g, i * 3 + 2, none⟩ (.slice v.ia v.im v.ic)).ownsRow base e 3 (.slice (some ⟨g, 0, none⟩) n cap) n (cellsN (vs.set i v)) := by
  have h0 := (h.stored (i * 3) (.bool v.lf)).1
  have h1 := (h0.stored (i * 3 + 1) (.slice v.ka v.kn v.kc)).1
  have h2 := (h1.stored (i * 3 + 2) (.slice v.ia v.im v.ic)).1
  have := cellsN_set vs i v hi
  unfold setN at this
  rw [this] at h2
  exact h2
/-- What nodes say, wherever their lists lie. -/
def saysN (v : TNode) : Bool × List ByteArray × List Int := (v.lf, v.ks, v.js)
def SameN (vs us : List TNode) : Prop := vs.map saysN = us.map saysN
theorem made_zeroN (n : Nat) : (madeCells #[.bool false, .slice none 0 0, .slice none 0 0] (n * 3)).toList = cellsN (List.replicate n zeroN) := by
  apply List.ext_getElem?
  intro j
  by_cases hj : j < n * 3
  · have h1 : (madeCells #[.bool false, .slice none 0 0, .slice none 0 0] (n * 3)).toList[j]? = some ((#[.bool false, .slice none 0 0, .slice none 0 0] : Array Value)[j % 3]!) := by
      simp [madeCells, hj]
    rw [h1]
    have hi : j / 3 < (List.replicate n zeroN).length := by simp; omega
    have hd : (List.replicate n zeroN).getD (j / 3) zeroN = zeroN := by rw [List.getD_eq_getElem?_getD, List.getElem?_eq_getElem hi]; simp
    have c := cellsN_get (List.replicate n zeroN) (j / 3) hi (j % 3) (by omega)
    rw [hd, show j / 3 * 3 + j % 3 = j by omega] at c
    rw [c]
    have hm : j % 3 < 3 := by omega
    generalize j % 3 = m at hm
    match m, hm with
    | 0, _ => rfl
    | 1, _ => rfl
    | 2, _ => rfl
  · rw [List.getElem?_eq_none (by simp [size_madeCells]; omega), List.getElem?_eq_none (by rw [cellsN_len]; simp; omega)]
theorem infoNd : (Try.prog.info? 72).map (fun i => (i.zero, i.size, i.bytes)) = some (some (Value.agg #[.bool false, .slice none 0 0, .slice none 0 0]), 3, 56) := by kernel_rfl
theorem setN_part (gs : List TNode) (m : Nat) (g : TNode) : (gs ++ List.replicate (m + 1) zeroN).set gs.length g = (gs ++ [g]) ++ List.replicate m zeroN := by
  rw [List.set_append, if_neg (by omega), Nat.sub_self, List.replicate_succ, List.set_cons_zero, List.append_assoc]
  rfl
theorem getD_appN {gs : List TNode} {g : TNode} {j : Nat} : (gs ++ [g]).getD j zeroN = if j < gs.length then gs.getD j zeroN else if j = gs.length then g else zeroN := by
  rw [List.getD_eq_getElem?_getD, List.getD_eq_getElem?_getD]
  by_cases h : j < gs.length
  · rw [if_pos h, List.getElem?_append_left h]
  · rw [if_neg h, List.getElem?_append_right (by omega)]
    by_cases e : j = gs.length
    · rw [if_pos e, e, Nat.sub_self]; rfl
    · rw [if_neg e, List.getElem?_eq_none (by simp; omega)]; rfl
/-- A node whose lists are the call's own, made since B and ahead of E. -/
def OwnN1 (w : World) (B E : Nat) (v : TNode) : Prop := w.ownsRow B 9 1 (.slice v.ka v.kn v.kc) v.kn (v.ks.map Value.string) ∧ w.ownsRow B 3 1 (.slice v.ia v.im v.ic) v.im (v.js.map (Value.int .i64)) ∧ (∀ g, ob v.ka = some g → B ≤ g ∧ g < E) ∧ (∀ g, ob v.ia = some g → B ≤ g ∧ g < E)
theorem OwnN1.same {w w' : World} {B E : Nat} {v : TNode} (h : OwnN1 w B E v) (hs : ∀ g, B ≤ g → g < E → w'.heap[g]? = w.heap[g]?) : OwnN1 w' B E v :=
  ⟨own_same h.1 fun g e => by rw [ob_slice] at e; have := h.2.2.1 g e; exact hs g this.1 this.2, own_same h.2.1 fun g e => by rw [ob_slice] at e; have := h.2.2.2 g e; exact hs g this.1 this.2, h.2.2⟩
theorem OwnN1.wide {w : World} {B E B' E' : Nat} {v : TNode} (h : OwnN1 w B E v) (hB : B' ≤ B) (hE : E ≤ E') : OwnN1 w B' E' v :=
  ⟨h.1.down hB, h.2.1.down hB, fun g e => by have := h.2.2.1 g e; omega, fun g e => by have := h.2.2.2 g e; omega⟩
theorem OwnN1.inn {w : World} {B E : Nat} {v : TNode} (h : OwnN1 w B E v) : InN w v := ⟨RdV.own h.1, RdV.own h.2.1⟩
def OwnN (w : World) (B E : Nat) (vs : List TNode) : Prop := ∀ i, i < vs.length → OwnN1 w B E (vs.getD i zeroN)
theorem RdN.own {w : World} {base e n : Nat} {a : Option Addr} {m cap : Nat} {vs : List TNode} (h : w.ownsRow base e 3 (.slice a m cap) n (cellsN vs)) (hp : ∀ i, i < n → InN w (vs.getD i zeroN)) : RdN w a m vs := by
  have hl : vs.length = n := by have := h.1; rw [cellsN_len] at this; omega
  rcases h.2 with ⟨hv, h0⟩ | ⟨g, cap', cur, hv, hb, hg, hnc, hcm, hcs, htake⟩
  · simp only [Value.slice.injEq] at hv
    obtain ⟨rfl, rfl, rfl⟩ := hv
    exact ⟨by omega, fun h => absurd h (by omega), fun i hi => absurd hi (by omega)⟩
  · simp only [Value.slice.injEq] at hv
    obtain ⟨rfl, rfl, rfl⟩ := hv
    refine ⟨hl, fun _ => ⟨g, 0, rfl, ?_, fun i hi => ?_⟩, hp⟩
    · rcases Nat.lt_or_ge g w.heap.size with h1 | h1
      · exact h1
      · rw [Array.getElem?_eq_none h1] at hg; cases hg
    · have c := fun j hj => (h.cellAt (i * 3 + j) (by omega)).trans (cellsN_get vs i (by omega) j hj)
      rw [Nat.zero_add]
      exact ⟨c 0 (by omega), c 1 (by omega), c 2 (by omega)⟩
set_option maxRecDepth 100000 in
set_option maxHeartbeats 8000000 in
theorem c_toN (a : Option Addr) (n cap : Nat) (vs : List TNode) (w : World) (hr : RdN w a n vs) (hn : n ≤ 1048576) (hf : ∀ i, i < n → FitN (vs.getD i zeroN)) :
    Calls Try.prog 57 #[.slice a n cap] w fun e w' => (∃ gs : List TNode, e = .returned (.slice (some ⟨w.heap.size, 0, none⟩) n n) ∧ SameN vs gs ∧ w'.ownsRow w.heap.size 72 3 (.slice (some ⟨w.heap.size, 0, none⟩) n n) n (cellsN gs) ∧ OwnN w' (w.heap.size + 1) w'.heap.size gs) ∧ Below w.heap.size w w' := by
  obtain ⟨hl, hcs, hpg⟩ := hr
  have HPG : Hid (∀ i, i < n → InN w (vs.getD i zeroN)) := hpg
  have HF : Hid (∀ i, i < n → FitN (vs.getD i zeroN)) := hf
  clear hpg hf
  obtain ⟨i0, hi, hz0, hz1, hz2⟩ := info_parts infoNd
  go_enter Try.func57, Try.ntmps57
  go_wp2_with (at_make; refine wpList_make_full _ rfl (.tmp 6) (.tmp 6) 25 rfl w.heap.size 72 i0 (.agg #[.bool false, .slice none 0 0, .slice none 0 0]) 3 Try.underlying25 hi hz0 hz1 .i64 .i64 _ _ n rfl rfl rfl rfl (by rw [hz2]; omega) (by unfold maxLen; omega) (Nat.le_refl _) ?_; intro w1 hown hgrow)
  have hw1 : w.heap.size < w1.heap.size := by
    have := hown.lt w.heap.size rfl
    omega
  go_loopw [4] (fun i wr => ∃ (k : Nat) (gs : List TNode), k ≤ n ∧ gs.length = k ∧ i = .int .i64 k ∧ Hid (SameN (vs.take k) gs) ∧ Hid (wr.ownsRow w.heap.size 72 3 (.slice (some ⟨w.heap.size, 0, none⟩) n n) n (cellsN (gs ++ List.replicate (n - k) zeroN))) ∧ Hid (OwnN wr (w.heap.size + 1) wr.heap.size gs) ∧ Hid (Below w.heap.size w wr) ∧ w.heap.size < wr.heap.size) (fun i _ => n - (intOf i).toNat)
  case atStart => exact ⟨0, [], by omega, rfl, rfl, rfl, by have e := made_zeroN n; simp only [Value.cells] at hown; rw [e] at hown; simpa [Hid] using hown, fun i h => absurd h (by simp), (Below.refl _ _).grown hgrow (Nat.le_refl _) (fun k h => by cases h), hw1⟩
  case round =>
    obtain ⟨k, gs, hk, hgl, rfl, HSF, HO, HOF, HB, hwr⟩ := hrel
    by_cases hlt : k < n
    · obtain ⟨b, off, rfl, hbl, hc⟩ := hcs (by omega)
      obtain ⟨d0, d1, d2⟩ := hc k hlt
      have RG := (HPG.out k hlt).below HB.out
      have FG := HF.out k hlt
      obtain ⟨⟨lf, ka, kn, kc, ks, ia, im, ic, js⟩, hv⟩ : ∃ v, v = vs.getD k zeroN := ⟨_, rfl⟩
      have HV : Hid ((⟨lf, ka, kn, kc, ks, ia, im, ic, js⟩ : TNode) = vs.getD k zeroN) := hv
      rw [← hv] at d0 d1 d2 RG FG
      dsimp only at d0 d1 d2
      have hb := HB.out
      have e0 := (hb.cell (p := ⟨b, off + k * 3, none⟩) hbl).trans d0
      have e1 := (hb.cell (p := ⟨b, off + k * 3 + 1, none⟩) hbl).trans d1
      have e2 := (hb.cell (p := ⟨b, off + k * 3 + 2, none⟩) hbl).trans d2
      have C := c_toN1 lf ka kn kc ks ia im ic js wr RG.1 RG.2 FG.1 FG.2.1
      clear hc hcs hgrow hv RG FG d0 d1 d2 hb hown hw1 HPG HF
      go_wp2_with fail
      refine C.mono ?_
      rintro e w1 ⟨⟨x, y, rfl, o1, o2, lx, lxy, ly⟩, hb1⟩
      have hown1 := own_below HO.out hb1
      have hbb : Below w.heap.size w w1 := HB.out.trans (hb1.mono HB.out.size)
      have hs1 := hb1.size
      have og : OwnN1 w1 wr.heap.size w1.heap.size ⟨lf, some ⟨x, 0, none⟩, kn, kn, ks, some ⟨y, 0, none⟩, im, im, js⟩ := ⟨o1, o2, fun g e => by cases e; exact ⟨lx, Nat.lt_trans lxy ly⟩, fun g e => by cases e; exact ⟨Nat.le_trans lx (Nat.le_of_lt lxy), ly⟩⟩
      obtain ⟨u0, f0⟩ : ∃ u, w1.cell? ⟨w.heap.size, k * 3, none⟩ = some u := ⟨_, (hown1.cellAt (k * 3) (by omega)).trans (List.getElem?_eq_getElem (by rw [cellsN_len, List.length_append, List.length_replicate]; omega))⟩
      have z0 := hown1.frozenAt (k * 3)
      obtain ⟨u1, f1⟩ : ∃ u, w1.cell? ⟨w.heap.size, k * 3 + 1, none⟩ = some u := ⟨_, (hown1.cellAt (k * 3 + 1) (by omega)).trans (List.getElem?_eq_getElem (by rw [cellsN_len, List.length_append, List.length_replicate]; omega))⟩
      have z1 := hown1.frozenAt (k * 3 + 1)
      obtain ⟨u2, f2⟩ : ∃ u, w1.cell? ⟨w.heap.size, k * 3 + 2, none⟩ = some u := ⟨_, (hown1.cellAt (k * 3 + 2) (by omega)).trans (List.getElem?_eq_getElem (by rw [cellsN_len, List.length_append, List.length_replicate]; omega))⟩
      have z2 := hown1.frozenAt (k * 3 + 2)
      obtain ⟨m, hm⟩ : ∃ m, n - k = m + 1 := ⟨n - k - 1, by omega⟩
      have hput := own_putN hown1 k ⟨lf, some ⟨x, 0, none⟩, kn, kn, ks, some ⟨y, 0, none⟩, im, im, js⟩ (by rw [List.length_append, List.length_replicate]; omega)
      rw [hm, ← hgl, setN_part, hgl, show m = n - (k + 1) by omega] at hput
      have HP : Hid ((((w1.setCell ⟨w.heap.size, k * 3, none⟩ (.bool lf)).setCell ⟨w.heap.size, k * 3 + 1, none⟩ (.slice (some ⟨x, 0, none⟩) kn kn)).setCell ⟨w.heap.size, k * 3 + 2, none⟩ (.slice (some ⟨y, 0, none⟩) im im)).ownsRow w.heap.size 72 3 (.slice (some ⟨w.heap.size, 0, none⟩) n n) n (cellsN ((gs ++ [⟨lf, some ⟨x, 0, none⟩, kn, kn, ks, some ⟨y, 0, none⟩, im, im, js⟩]) ++ List.replicate (n - (k + 1)) zeroN))) := hput
      have BB : Hid (Below w.heap.size w (((w1.setCell ⟨w.heap.size, k * 3, none⟩ (.bool lf)).setCell ⟨w.heap.size, k * 3 + 1, none⟩ (.slice (some ⟨x, 0, none⟩) kn kn)).setCell ⟨w.heap.size, k * 3 + 2, none⟩ (.slice (some ⟨y, 0, none⟩) im im))) := (((hbb.setCell (Nat.le_refl _) _).setCell (Nat.le_refl _) _).setCell (Nat.le_refl _) _)
      have OF : Hid (OwnN (((w1.setCell ⟨w.heap.size, k * 3, none⟩ (.bool lf)).setCell ⟨w.heap.size, k * 3 + 1, none⟩ (.slice (some ⟨x, 0, none⟩) kn kn)).setCell ⟨w.heap.size, k * 3 + 2, none⟩ (.slice (some ⟨y, 0, none⟩) im im)) (w.heap.size + 1) (((w1.setCell ⟨w.heap.size, k * 3, none⟩ (.bool lf)).setCell ⟨w.heap.size, k * 3 + 1, none⟩ (.slice (some ⟨x, 0, none⟩) kn kn)).setCell ⟨w.heap.size, k * 3 + 2, none⟩ (.slice (some ⟨y, 0, none⟩) im im)).heap.size (gs ++ [⟨lf, some ⟨x, 0, none⟩, kn, kn, ks, some ⟨y, 0, none⟩, im, im, js⟩])) := by
        intro i hi
        rw [List.length_append, List.length_singleton] at hi
        have sm : ∀ g, w.heap.size + 1 ≤ g → (((w1.setCell ⟨w.heap.size, k * 3, none⟩ (.bool lf)).setCell ⟨w.heap.size, k * 3 + 1, none⟩ (.slice (some ⟨x, 0, none⟩) kn kn)).setCell ⟨w.heap.size, k * 3 + 2, none⟩ (.slice (some ⟨y, 0, none⟩) im im)).heap[g]? = w1.heap[g]? := fun g hg => by
          rw [Below.heap_setCell _ _ _ _ (by simp; omega), Below.heap_setCell _ _ _ _ (by simp; omega), Below.heap_setCell _ _ _ _ (by simp; omega)]
        rw [getD_appN]
        by_cases e : i < gs.length
        · rw [if_pos e]
          exact ((HOF.out i e).same (w' := (((w1.setCell ⟨w.heap.size, k * 3, none⟩ (.bool lf)).setCell ⟨w.heap.size, k * 3 + 1, none⟩ (.slice (some ⟨x, 0, none⟩) kn kn)).setCell ⟨w.heap.size, k * 3 + 2, none⟩ (.slice (some ⟨y, 0, none⟩) im im))) fun g h1 h2 => (sm g h1).trans (hb1.block g h2)).wide (Nat.le_refl _) (by simp; omega)
        · rw [if_neg e, if_pos (by omega)]
          exact (og.same (w' := (((w1.setCell ⟨w.heap.size, k * 3, none⟩ (.bool lf)).setCell ⟨w.heap.size, k * 3 + 1, none⟩ (.slice (some ⟨x, 0, none⟩) kn kn)).setCell ⟨w.heap.size, k * 3 + 2, none⟩ (.slice (some ⟨y, 0, none⟩) im im))) fun g h1 _ => sm g (by omega)).wide (by omega) (by simp)
      have HS2 : Hid (SameN (vs.take (k + 1)) (gs ++ [⟨lf, some ⟨x, 0, none⟩, kn, kn, ks, some ⟨y, 0, none⟩, im, im, js⟩])) := by
        unfold Hid SameN
        rw [List.take_add_one, List.map_append, List.map_append, HSF.out]
        have e : vs[k]? = some ⟨lf, ka, kn, kc, ks, ia, im, ic, js⟩ := by
          have := HV.out
          rw [List.getD_eq_getElem?_getD, List.getElem?_eq_getElem (by omega)] at this
          rw [List.getElem?_eq_getElem (by omega)]
          exact congrArg some this.symm
        rw [e]
        rfl
      have hsz : w.heap.size < (((w1.setCell ⟨w.heap.size, k * 3, none⟩ (.bool lf)).setCell ⟨w.heap.size, k * 3 + 1, none⟩ (.slice (some ⟨x, 0, none⟩) kn kn)).setCell ⟨w.heap.size, k * 3 + 2, none⟩ (.slice (some ⟨y, 0, none⟩) im im)).heap.size := by simp; omega
      clear hput hown1 hb1 HO HB hbb HOF og o1 o2 HSF e0 e1 e2 C hm
      go_wp2
      go_roundw
      case rel => exact ⟨k + 1, gs ++ [⟨lf, some ⟨x, 0, none⟩, kn, kn, ks, some ⟨y, 0, none⟩, im, im, js⟩], by omega, by simp [hgl], by go_num, HS2, HP, OF, BB, hsz⟩
      case measure => simp [intOf]; omega
    · have e : k = n := by omega
      subst e
      have ho := HO.out
      rw [Nat.sub_self, List.replicate_zero, List.append_nil] at ho
      have hs := HSF.out
      rw [List.take_of_length_le (by omega)] at hs
      have HO' : Hid (wr.ownsRow w.heap.size 72 3 (.slice (some ⟨w.heap.size, 0, none⟩) k k) k (cellsN gs)) := ho
      have HS' : Hid (SameN vs gs) := hs
      clear ho hs HO HSF
      go_wp2
      go_ret
      exact ⟨⟨gs, rfl, HS'.out, HO'.out, HOF.out⟩, HB.out⟩

end Go.Proofs.Ythnggpjgajkaeaa
