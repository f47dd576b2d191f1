/-
  Lists of frames: their sizes, copies and comparisons.
-/
import Derived.Test.YtcokbogicbdoaaaDoorYtbq
import Derived.Deep.RegionHeld3
namespace Go.Proofs.YtcokbogicbdoaaaDoor
open Go Go.RowKit
attribute [local go_sem ↓] Go.wp_at_zero Go.wp_at_succ

def cF (f : FF) : List Value := [.int .i64 f.no, .int .i64 f.h.l, .slice f.h.a f.h.n f.h.c, .bool f.d, .int .i64 f.fi]
def cellsF (fs : List FF) : List Value := fs.flatMap cF
theorem cellsF_len (vs : List FF) : (cellsF vs).length = vs.length * 5 := by
  induction vs with
  | nil => rfl
  | cons v vs ih => rw [show cellsF (v :: vs) = cF v ++ cellsF vs from rfl, List.length_append, ih, List.length_cons]; simp only [cF, List.length_cons, List.length_nil]; omega
theorem cellsF_get : ∀ (vs : List FF) (i : Nat), i < vs.length → ∀ j, j < 5 → (cellsF vs)[i * 5 + j]? = (cF (vs.getD i zeroF))[j]?
  | v :: vs, 0, _, j, hj => by
    rw [show cellsF (v :: vs) = cF v ++ cellsF vs from rfl, List.getElem?_append_left (by simp [cF]; omega)]
    simp
  | v :: vs, i + 1, h, j, hj => by
    have ih := cellsF_get vs i (by simpa using h) j hj
    rw [show cellsF (v :: vs) = cF v ++ cellsF vs from rfl, List.getElem?_append_right (by simp [cF]; omega), show (i + 1) * 5 + j - (cF v).length = i * 5 + j by simp [cF]; omega, ih]
    rfl
def setF (L : List Value) (o : Nat) (v : FF) : List Value := ((((L.set o (.int .i64 v.no)).set (o + 1) (.int .i64 v.h.l)).set (o + 2) (.slice v.h.a v.h.n v.h.c)).set (o + 3) (.bool v.d)).set (o + 4) (.int .i64 v.fi)
theorem setF_cons (x : Value) (L : List Value) (o : Nat) (v : FF) : setF (x :: L) (o + 1) v = x :: setF L o v := rfl
theorem cellsF_set : ∀ (vs : List FF) (i : Nat) (v : FF), i < vs.length → setF (cellsF vs) (i * 5) v = cellsF (vs.set i v)
  | u :: vs, 0, v, _ => rfl
  | u :: vs, i + 1, v, h => by
    have ih := cellsF_set vs i v (by simpa using h)
    rw [show cellsF (u :: vs) = .int .i64 u.no :: .int .i64 u.h.l :: .slice u.h.a u.h.n u.h.c :: .bool u.d :: .int .i64 u.fi :: cellsF vs from rfl, show (i + 1) * 5 = i * 5 + 1 + 1 + 1 + 1 + 1 by omega]
    rw [setF_cons, setF_cons, setF_cons, setF_cons, setF_cons, ih]
    rfl
theorem own_putF {w : World} {base e g n cap : Nat} {vs : List FF} (h : w.ownsRow base e 5 (.slice (some ⟨g, 0, none⟩) n cap) n (cellsF vs)) (i : Nat) (v : FF) (hi : i < vs.length) :
    (((((w.setCell ⟨g, i * 5, none⟩ (.int .i64 v.no)).setCell ⟨g, i * 5 + 1, none⟩ (.int .i64 v.h.l)).setCell ⟨g, i * 5 + 2, none⟩ (.slice v.h.a v.h.n v.h.c)).setCell ⟨g, i * 5 + 3, none⟩ (.bool v.d)).setCell ⟨g, i * 5 + 4, none⟩ (.int .i64 v.fi)).ownsRow base e 5 (.slice (some ⟨g, 0, none⟩) n cap) n (cellsF (vs.set i v)) := by
  have h0 := (h.stored (i * 5) (.int .i64 v.no)).1
  have h1 := (h0.stored (i * 5 + 1) (.int .i64 v.h.l)).1
  have h2 := (h1.stored (i * 5 + 2) (.slice v.h.a v.h.n v.h.c)).1
  have h3 := (h2.stored (i * 5 + 3) (.bool v.d)).1
  have h4 := (h3.stored (i * 5 + 4) (.int .i64 v.fi)).1
  have := cellsF_set vs i v hi
  unfold setF at this
  rw [this] at h4
  exact h4
/-- What frames say, wherever their pages lie. -/
def saysF (f : FF) : Int × G.DG × Bool × Int := (f.no, f.D, f.d, f.fi)
def SameF (fs gs : List FF) : Prop := fs.map saysF = gs.map saysF
theorem SameF.len {fs gs : List FF} (h : SameF fs gs) : fs.length = gs.length := by have := congrArg List.length h; simpa using this
theorem SameF.at {fs gs : List FF} (h : SameF fs gs) (k : Nat) : saysF (fs.getD k zeroF) = saysF (gs.getD k zeroF) := by
  have q : (fs.map saysF)[k]? = (gs.map saysF)[k]? := by rw [show fs.map saysF = gs.map saysF from h]
  rw [List.getElem?_map, List.getElem?_map] at q
  rw [List.getD_eq_getElem?_getD, List.getD_eq_getElem?_getD]
  cases h1 : fs[k]? <;> cases h2 : gs[k]? <;> rw [h1, h2] at q <;> simp_all
theorem RdF.own {w : World} {base e n : Nat} {a : Option Addr} {m cap : Nat} {vs : List FF} (h : w.ownsRow base e 5 (.slice a m cap) n (cellsF vs)) (hp : ∀ i, i < n → G.RdG w (vs.getD i zeroF).h (vs.getD i zeroF).D) : RdF w a m vs := by
  have hl : vs.length = n := by have := h.1; rw [cellsF_len] at this; omega
  rcases h.2 with ⟨hv, h0⟩ | ⟨g, cap', cur, hv, hb, hg, hnc, hcm, hcs, htake⟩
  · simp only [Value.slice.injEq] at hv
    obtain ⟨rfl, rfl, rfl⟩ := hv
    exact ⟨by omega, fun h => absurd h (by omega), fun i hi => absurd hi (by omega)⟩
  · simp only [Value.slice.injEq] at hv
    obtain ⟨rfl, rfl, rfl⟩ := hv
    refine ⟨hl, fun _ => ⟨g, 0, rfl, ?_, fun i hi => ?_⟩, hp⟩
    · rcases Nat.lt_or_ge g w.heap.size with h1 | h1
      · exact h1
      · rw [Array.getElem?_eq_none h1] at hg; cases hg
    · have c := fun j hj => (h.cellAt (i * 5 + j) (by omega)).trans (cellsF_get vs i (by omega) j hj)
      rw [Nat.zero_add]
      exact ⟨c 0 (by omega), c 1 (by omega), c 2 (by omega), c 3 (by omega), c 4 (by omega)⟩
set_option maxRecDepth 100000 in
set_option maxHeartbeats 8000000 in
theorem c_szF (a : Option Addr) (n cap : Nat) (fs : List FF) (left : Int) (w : World) (hr : RdF w a n fs) (hm : n ≤ maxLen) (hs : ∀ i, i < n → (fs.getD i zeroF).h.n ≤ maxLen ∧ ∀ s ∈ (fs.getD i zeroF).D.S, s.size ≤ maxLen) (h0 : 0 ≤ left) (h1 : left ≤ 1048576) :
    Calls Tryd.prog 14 #[.slice a n cap, .int .i64 left] w fun e w' => (∃ z : Int, e = .returned (.int .i64 z) ∧ z ≤ left ∧ (0 ≤ z → n ≤ 1048576 ∧ ∀ i, i < n → G.FitG (fs.getD i zeroF).D)) ∧ Below w.heap.size w w' := by
  unfold maxLen at hm
  obtain ⟨hl, hcs, hpg⟩ := hr
  have HPG : Hid (∀ i, i < n → G.RdG w (fs.getD i zeroF).h (fs.getD i zeroF).D) := hpg
  have HS : Hid (∀ i, i < n → (fs.getD i zeroF).h.n ≤ maxLen ∧ ∀ s ∈ (fs.getD i zeroF).D.S, s.size ≤ maxLen) := hs
  clear hpg hs
  by_cases hn : left - n < 0
  · go_enter Tryd.func14, Tryd.ntmps14
    go_wp2
    go_ret
    exact ⟨⟨_, rfl, by omega, fun h => absurd h (by omega)⟩, Below.refl _ _⟩
  · go_enter Tryd.func14, Tryd.ntmps14
    go_wp2
    go_loopw [1, 5] (fun m i wr => ∃ (k : Nat) (l : Int), k ≤ n ∧ 0 ≤ l ∧ l ≤ left ∧ i = .int .i64 k ∧ m = .int .i64 l ∧ Hid (∀ j, j < k → G.FitG (fs.getD j zeroF).D) ∧ Below w.heap.size w wr) (fun _ i _ => n - (intOf i).toNat)
    case atStart => exact ⟨0, left - n, by omega, by omega, by omega, rfl, rfl, fun j hj => absurd hj (by omega), Below.refl _ _⟩
    case round =>
      obtain ⟨k, l, hk, hl0, hl1, rfl, rfl, HL, hb⟩ := hrel
      by_cases hlt : k < n
      · obtain ⟨b, off, rfl, hbl, hc⟩ := hcs (by omega)
        obtain ⟨d0, d1, d2, d3, d4⟩ := hc k hlt
        have RG := (HPG.out k hlt).below hb
        obtain ⟨SN, SS⟩ := HS.out k hlt
        obtain ⟨⟨no, h, D, d, fi⟩, hv⟩ : ∃ v, v = fs.getD k zeroF := ⟨_, rfl⟩
        have HV : Hid ((⟨no, h, D, d, fi⟩ : FF) = fs.getD k zeroF) := hv
        rw [← hv] at d0 d1 d2 d3 d4 RG SN SS
        dsimp only at d0 d1 d2 d3 d4 RG SN SS
        have e0 := (hb.cell (p := ⟨b, off + k * 5, none⟩) hbl).trans d0
        have e1 := (hb.cell (p := ⟨b, off + k * 5 + 1, none⟩) hbl).trans d1
        have e2 := (hb.cell (p := ⟨b, off + k * 5 + 2, none⟩) hbl).trans d2
        have e3 := (hb.cell (p := ⟨b, off + k * 5 + 3, none⟩) hbl).trans d3
        have e4 := (hb.cell (p := ⟨b, off + k * 5 + 4, none⟩) hbl).trans d4
        have C := c_szFr no fi d h D l wr RG SN SS hl0 (by omega)
        clear hc hcs hv HS HPG RG SN SS d0 d1 d2 d3 d4
        go_wp2_with fail
        refine C.mono ?_
        rintro e w1 ⟨⟨z, rfl, hzl, hz⟩, hb1⟩
        have hb' : Below w.heap.size w w1 := hb.trans (hb1.mono hb.size)
        have HZ : Hid (0 ≤ z → G.FitG D) := hz
        clear hb1 hz hb e0 e1 e2 e3 e4 C
        by_cases hneg : z < 0
        · go_wp2
          go_ret
          exact ⟨⟨_, rfl, by omega, fun h => absurd h (by omega)⟩, hb'⟩
        · go_wp2
          go_roundw
          case rel => exact ⟨k + 1, z, by omega, by omega, by omega, by go_num, rfl, fun j hj => by
                        by_cases e : j = k
                        · subst e; rw [← HV.out]; exact HZ.out (by omega)
                        · exact HL.out j (by omega), hb'⟩
          case measure => simp [intOf]; omega
      · have e : k = n := by omega
        subst e
        go_wp2
        go_ret
        exact ⟨⟨_, rfl, by omega, fun _ => ⟨by omega, HL.out⟩⟩, hb⟩
theorem made_zeroF (n : Nat) : (madeCells #[.int .i64 0, .int .i64 0, .slice none 0 0, .bool false, .int .i64 0] (n * 5)).toList = cellsF (List.replicate n zeroF) := by
  apply List.ext_getElem?
  intro j
  by_cases hj : j < n * 5
  · have h1 : (madeCells #[.int .i64 0, .int .i64 0, .slice none 0 0, .bool false, .int .i64 0] (n * 5)).toList[j]? = some ((#[.int .i64 0, .int .i64 0, .slice none 0 0, .bool false, .int .i64 0] : Array Value)[j % 5]!) := by
      simp [madeCells, hj]
    rw [h1]
    have hi : j / 5 < (List.replicate n zeroF).length := by simp; omega
    have hd : (List.replicate n zeroF).getD (j / 5) zeroF = zeroF := by rw [List.getD_eq_getElem?_getD, List.getElem?_eq_getElem hi]; simp
    have c := cellsF_get (List.replicate n zeroF) (j / 5) hi (j % 5) (by omega)
    rw [hd, show j / 5 * 5 + j % 5 = j by omega] at c
    rw [c]
    have hm : j % 5 < 5 := by omega
    generalize j % 5 = m at hm
    match m, hm with
    | 0, _ => rfl
    | 1, _ => rfl
    | 2, _ => rfl
    | 3, _ => rfl
    | 4, _ => rfl
  · rw [List.getElem?_eq_none (by simp [size_madeCells]; omega), List.getElem?_eq_none (by rw [cellsF_len]; simp; omega)]
theorem infoF : (Tryd.prog.info? 51).map (fun i => (i.zero, i.size, i.bytes)) = some (some (.agg #[.int .i64 0, .int .i64 0, .slice none 0 0, .bool false, .int .i64 0]), 5, 56) := by kernel_rfl
theorem setF_part (gs : List FF) (m : Nat) (g : FF) : (gs ++ List.replicate (m + 1) zeroF).set gs.length g = (gs ++ [g]) ++ List.replicate m zeroF := by
  rw [List.set_append, if_neg (by omega), Nat.sub_self, List.replicate_succ, List.set_cons_zero, List.append_assoc]
  rfl
theorem getD_app {gs : List FF} {g : FF} {j : Nat} : (gs ++ [g]).getD j zeroF = if j < gs.length then gs.getD j zeroF else if j = gs.length then g else zeroF := by
  rw [List.getD_eq_getElem?_getD, List.getD_eq_getElem?_getD]
  by_cases h : j < gs.length
  · rw [if_pos h, List.getElem?_append_left h]
  · rw [if_neg h, List.getElem?_append_right (by omega)]
    by_cases e : j = gs.length
    · rw [if_pos e, e, Nat.sub_self]; rfl
    · rw [if_neg e, List.getElem?_eq_none (by simp; omega)]; rfl
/-- Frames whose pages' arrays are the call's own, made since B and ahead of E. -/
def OwnF (w : World) (B E : Nat) (gs : List FF) : Prop := ∀ i, i < gs.length → G.OwnG w B E (gs.getD i zeroF).h (gs.getD i zeroF).D
theorem OwnF.rd {w : World} {B E : Nat} {gs : List FF} (o : OwnF w B E gs) {n : Nat} (h : gs.length = n) : ∀ i, i < n → G.RdG w (gs.getD i zeroF).h (gs.getD i zeroF).D := fun i hi => (o i (by omega)).rd
set_option maxRecDepth 100000 in
set_option maxHeartbeats 8000000 in
theorem c_toF (a : Option Addr) (n cap : Nat) (fs : List FF) (w : World) (hr : RdF w a n fs) (hn : n ≤ 1048576) (hf : ∀ i, i < n → G.FitG (fs.getD i zeroF).D) :
    Calls Tryd.prog 19 #[.slice a n cap] w fun e w' => (∃ gs : List FF, e = .returned (.slice (some ⟨w.heap.size, 0, none⟩) n n) ∧ SameF fs gs ∧ w'.ownsRow w.heap.size 51 5 (.slice (some ⟨w.heap.size, 0, none⟩) n n) n (cellsF gs) ∧ OwnF w' (w.heap.size + 1) w'.heap.size gs) ∧ Below w.heap.size w w' := by
  obtain ⟨hl, hcs, hpg⟩ := hr
  have HPG : Hid (∀ i, i < n → G.RdG w (fs.getD i zeroF).h (fs.getD i zeroF).D) := hpg
  have HF : Hid (∀ i, i < n → G.FitG (fs.getD i zeroF).D) := hf
  clear hpg hf
  obtain ⟨i0, hi, hz0, hz1, hz2⟩ := info_parts infoF
  go_enter Tryd.func19, Tryd.ntmps19
  go_wp2_with (at_make; refine wpList_make_full _ rfl (.tmp 6) (.tmp 6) 38 rfl w.heap.size 51 i0 (.agg #[.int .i64 0, .int .i64 0, .slice none 0 0, .bool false, .int .i64 0]) 5 Tryd.underlying38 hi hz0 hz1 .i64 .i64 _ _ n rfl rfl rfl rfl (by rw [hz2]; omega) (by unfold maxLen; omega) (Nat.le_refl _) ?_; intro w1 hown hgrow)
  have hw1 : w.heap.size < w1.heap.size := by
    have := hown.lt w.heap.size rfl
    omega
  go_loopw [4] (fun i wr => ∃ (k : Nat) (gs : List FF), k ≤ n ∧ gs.length = k ∧ i = .int .i64 k ∧ Hid (SameF (fs.take k) gs) ∧ Hid (wr.ownsRow w.heap.size 51 5 (.slice (some ⟨w.heap.size, 0, none⟩) n n) n (cellsF (gs ++ List.replicate (n - k) zeroF))) ∧ Hid (OwnF wr (w.heap.size + 1) wr.heap.size gs) ∧ Hid (Below w.heap.size w wr) ∧ w.heap.size < wr.heap.size) (fun i _ => n - (intOf i).toNat)
  case atStart => exact ⟨0, [], by omega, rfl, rfl, rfl, by have e := made_zeroF n; simp only [Value.cells] at hown; rw [e] at hown; simpa [Hid] using hown, fun i h => absurd h (by simp), (Below.refl _ _).grown hgrow (Nat.le_refl _) (fun k h => by cases h), hw1⟩
  case round =>
    obtain ⟨k, gs, hk, hgl, rfl, HSF, HO, HOF, HB, hwr⟩ := hrel
    by_cases hlt : k < n
    · obtain ⟨b, off, rfl, hbl, hc⟩ := hcs (by omega)
      obtain ⟨d0, d1, d2, d3, d4⟩ := hc k hlt
      have RG := (HPG.out k hlt).below HB.out
      have FG := HF.out k hlt
      obtain ⟨⟨no, h, D, d, fi⟩, hv⟩ : ∃ v, v = fs.getD k zeroF := ⟨_, rfl⟩
      have HV : Hid ((⟨no, h, D, d, fi⟩ : FF) = fs.getD k zeroF) := hv
      rw [← hv] at d0 d1 d2 d3 d4 RG FG
      dsimp only at d0 d1 d2 d3 d4 RG FG
      have hb := HB.out
      have e0 := (hb.cell (p := ⟨b, off + k * 5, none⟩) hbl).trans d0
      have e1 := (hb.cell (p := ⟨b, off + k * 5 + 1, none⟩) hbl).trans d1
      have e2 := (hb.cell (p := ⟨b, off + k * 5 + 2, none⟩) hbl).trans d2
      have e3 := (hb.cell (p := ⟨b, off + k * 5 + 3, none⟩) hbl).trans d3
      have e4 := (hb.cell (p := ⟨b, off + k * 5 + 4, none⟩) hbl).trans d4
      have C := c_toFr no fi d h D wr RG FG
      clear hc hcs hgrow hv RG FG d0 d1 d2 d3 d4 hb hown hw1 HPG HF
      go_wp2_with fail
      refine C.mono ?_
      rintro e w1 ⟨⟨h', rfl, og⟩, hb1⟩
      have hown1 := own_below HO.out hb1
      have hbb : Below w.heap.size w w1 := HB.out.trans (hb1.mono HB.out.size)
      have hs1 := hb1.size
      obtain ⟨u0, f0⟩ : ∃ u, w1.cell? ⟨w.heap.size, k * 5, none⟩ = some u := ⟨_, (hown1.cellAt (k * 5) (by omega)).trans (List.getElem?_eq_getElem (by rw [cellsF_len, List.length_append, List.length_replicate]; omega))⟩
      have z0 := hown1.frozenAt (k * 5)
      obtain ⟨u1, f1⟩ : ∃ u, w1.cell? ⟨w.heap.size, k * 5 + 1, none⟩ = some u := ⟨_, (hown1.cellAt (k * 5 + 1) (by omega)).trans (List.getElem?_eq_getElem (by rw [cellsF_len, List.length_append, List.length_replicate]; omega))⟩
      have z1 := hown1.frozenAt (k * 5 + 1)
      obtain ⟨u2, f2⟩ : ∃ u, w1.cell? ⟨w.heap.size, k * 5 + 2, none⟩ = some u := ⟨_, (hown1.cellAt (k * 5 + 2) (by omega)).trans (List.getElem?_eq_getElem (by rw [cellsF_len, List.length_append, List.length_replicate]; omega))⟩
      have z2 := hown1.frozenAt (k * 5 + 2)
      obtain ⟨u3, f3⟩ : ∃ u, w1.cell? ⟨w.heap.size, k * 5 + 3, none⟩ = some u := ⟨_, (hown1.cellAt (k * 5 + 3) (by omega)).trans (List.getElem?_eq_getElem (by rw [cellsF_len, List.length_append, List.length_replicate]; omega))⟩
      have z3 := hown1.frozenAt (k * 5 + 3)
      obtain ⟨u4, f4⟩ : ∃ u, w1.cell? ⟨w.heap.size, k * 5 + 4, none⟩ = some u := ⟨_, (hown1.cellAt (k * 5 + 4) (by omega)).trans (List.getElem?_eq_getElem (by rw [cellsF_len, List.length_append, List.length_replicate]; omega))⟩
      have z4 := hown1.frozenAt (k * 5 + 4)
      obtain ⟨m, hm⟩ : ∃ m, n - k = m + 1 := ⟨n - k - 1, by omega⟩
      have hput := own_putF hown1 k ⟨no, h', D, d, fi⟩ (by rw [List.length_append, List.length_replicate]; omega)
      rw [hm, ← hgl, setF_part, hgl, show m = n - (k + 1) by omega] at hput
      have HP : Hid ((((((w1.setCell ⟨w.heap.size, k * 5, none⟩ (.int .i64 no)).setCell ⟨w.heap.size, k * 5 + 1, none⟩ (.int .i64 h'.l)).setCell ⟨w.heap.size, k * 5 + 2, none⟩ (.slice h'.a h'.n h'.c)).setCell ⟨w.heap.size, k * 5 + 3, none⟩ (.bool d)).setCell ⟨w.heap.size, k * 5 + 4, none⟩ (.int .i64 fi)).ownsRow w.heap.size 51 5 (.slice (some ⟨w.heap.size, 0, none⟩) n n) n (cellsF ((gs ++ [⟨no, h', D, d, fi⟩]) ++ List.replicate (n - (k + 1)) zeroF))) := hput
      have BB : Hid (Below w.heap.size w (((((w1.setCell ⟨w.heap.size, k * 5, none⟩ (.int .i64 no)).setCell ⟨w.heap.size, k * 5 + 1, none⟩ (.int .i64 h'.l)).setCell ⟨w.heap.size, k * 5 + 2, none⟩ (.slice h'.a h'.n h'.c)).setCell ⟨w.heap.size, k * 5 + 3, none⟩ (.bool d)).setCell ⟨w.heap.size, k * 5 + 4, none⟩ (.int .i64 fi))) := (((((hbb.setCell (Nat.le_refl _) _).setCell (Nat.le_refl _) _).setCell (Nat.le_refl _) _).setCell (Nat.le_refl _) _).setCell (Nat.le_refl _) _)
      have OF : Hid (OwnF (((((w1.setCell ⟨w.heap.size, k * 5, none⟩ (.int .i64 no)).setCell ⟨w.heap.size, k * 5 + 1, none⟩ (.int .i64 h'.l)).setCell ⟨w.heap.size, k * 5 + 2, none⟩ (.slice h'.a h'.n h'.c)).setCell ⟨w.heap.size, k * 5 + 3, none⟩ (.bool d)).setCell ⟨w.heap.size, k * 5 + 4, none⟩ (.int .i64 fi)) (w.heap.size + 1) (((((w1.setCell ⟨w.heap.size, k * 5, none⟩ (.int .i64 no)).setCell ⟨w.heap.size, k * 5 + 1, none⟩ (.int .i64 h'.l)).setCell ⟨w.heap.size, k * 5 + 2, none⟩ (.slice h'.a h'.n h'.c)).setCell ⟨w.heap.size, k * 5 + 3, none⟩ (.bool d)).setCell ⟨w.heap.size, k * 5 + 4, none⟩ (.int .i64 fi)).heap.size (gs ++ [⟨no, h', D, d, fi⟩])) := by
        intro i hi
        rw [List.length_append, List.length_singleton] at hi
        have sm : ∀ g, w.heap.size + 1 ≤ g → (((((w1.setCell ⟨w.heap.size, k * 5, none⟩ (.int .i64 no)).setCell ⟨w.heap.size, k * 5 + 1, none⟩ (.int .i64 h'.l)).setCell ⟨w.heap.size, k * 5 + 2, none⟩ (.slice h'.a h'.n h'.c)).setCell ⟨w.heap.size, k * 5 + 3, none⟩ (.bool d)).setCell ⟨w.heap.size, k * 5 + 4, none⟩ (.int .i64 fi)).heap[g]? = w1.heap[g]? := fun g hg => by
          rw [Below.heap_setCell _ _ _ _ (by simp; omega), Below.heap_setCell _ _ _ _ (by simp; omega), Below.heap_setCell _ _ _ _ (by simp; omega), Below.heap_setCell _ _ _ _ (by simp; omega), Below.heap_setCell _ _ _ _ (by simp; omega)]
        rw [getD_app]
        by_cases e : i < gs.length
        · rw [if_pos e]
          have q := ((HOF.out i e).below hb1)
          exact (q.same (w' := (((((w1.setCell ⟨w.heap.size, k * 5, none⟩ (.int .i64 no)).setCell ⟨w.heap.size, k * 5 + 1, none⟩ (.int .i64 h'.l)).setCell ⟨w.heap.size, k * 5 + 2, none⟩ (.slice h'.a h'.n h'.c)).setCell ⟨w.heap.size, k * 5 + 3, none⟩ (.bool d)).setCell ⟨w.heap.size, k * 5 + 4, none⟩ (.int .i64 fi))) (by simp) fun g h1 _ => sm g h1).wide (Nat.le_refl _)
        · rw [if_neg e, if_pos (by omega)]
          exact (og.same (w' := (((((w1.setCell ⟨w.heap.size, k * 5, none⟩ (.int .i64 no)).setCell ⟨w.heap.size, k * 5 + 1, none⟩ (.int .i64 h'.l)).setCell ⟨w.heap.size, k * 5 + 2, none⟩ (.slice h'.a h'.n h'.c)).setCell ⟨w.heap.size, k * 5 + 3, none⟩ (.bool d)).setCell ⟨w.heap.size, k * 5 + 4, none⟩ (.int .i64 fi))) (by simp) fun g h1 _ => sm g (by omega)).wide (by omega)
      have HS2 : Hid (SameF (fs.take (k + 1)) (gs ++ [⟨no, h', D, d, fi⟩])) := by
        unfold Hid SameF
        rw [List.take_add_one, List.map_append, List.map_append, HSF.out]
        have e : fs[k]? = some ⟨no, h, D, d, fi⟩ := by
          have := HV.out
          rw [List.getD_eq_getElem?_getD, List.getElem?_eq_getElem (by omega)] at this
          rw [List.getElem?_eq_getElem (by omega)]
          exact congrArg some this.symm
        rw [e]
        rfl
      have hsz : w.heap.size < (((((w1.setCell ⟨w.heap.size, k * 5, none⟩ (.int .i64 no)).setCell ⟨w.heap.size, k * 5 + 1, none⟩ (.int .i64 h'.l)).setCell ⟨w.heap.size, k * 5 + 2, none⟩ (.slice h'.a h'.n h'.c)).setCell ⟨w.heap.size, k * 5 + 3, none⟩ (.bool d)).setCell ⟨w.heap.size, k * 5 + 4, none⟩ (.int .i64 fi)).heap.size := by simp; omega
      clear hput hown1 hb1 HO HB hbb HOF og HSF e0 e1 e2 e3 e4 C hm
      go_wp2
      go_roundw
      case rel => exact ⟨k + 1, gs ++ [⟨no, h', D, d, fi⟩], by omega, by simp [hgl], by go_num, HS2, HP, OF, BB, hsz⟩
      case measure => simp [intOf]; omega
    · have e : k = n := by omega
      subst e
      have ho := HO.out
      rw [Nat.sub_self, List.replicate_zero, List.append_nil] at ho
      have hs := HSF.out
      rw [List.take_of_length_le (by omega)] at hs
      have HO' : Hid (wr.ownsRow w.heap.size 51 5 (.slice (some ⟨w.heap.size, 0, none⟩) k k) k (cellsF gs)) := ho
      have HS' : Hid (SameF fs gs) := hs
      clear ho hs HO HSF
      go_wp2
      go_ret
      exact ⟨⟨gs, rfl, HS'.out, HO'.out, HOF.out⟩, HB.out⟩
set_option maxRecDepth 100000 in
set_option maxHeartbeats 8000000 in
theorem c_eqF (a a' : Option Addr) (n cap cap' : Nat) (fs gs : List FF) (w : World) (hr : RdF w a n fs) (hr' : RdF w a' n gs) (hs : SameF fs gs) (hn : n ≤ 1048576) (hf : ∀ i, i < n → G.FitG (fs.getD i zeroF).D) :
    Calls Tryd.prog 24 #[.slice a n cap, .slice a' n cap'] w fun e w' => e = .returned (.bool true) ∧ Below w.heap.size w w' := by
  obtain ⟨hl, hcs, hpg⟩ := hr
  obtain ⟨hl', hcs', hpg'⟩ := hr'
  have HPG : Hid (∀ i, i < n → G.RdG w (fs.getD i zeroF).h (fs.getD i zeroF).D) := hpg
  have HPG' : Hid (∀ i, i < n → G.RdG w (gs.getD i zeroF).h (gs.getD i zeroF).D) := hpg'
  have HF : Hid (∀ i, i < n → G.FitG (fs.getD i zeroF).D) := hf
  have HS : Hid (SameF fs gs) := hs
  clear hpg hpg' hf hs
  go_enter Tryd.func24, Tryd.ntmps24
  go_wp2
  go_loopw [5] (fun i wr => ∃ k : Nat, k ≤ n ∧ i = .int .i64 k ∧ Below w.heap.size w wr) (fun i _ => n - (intOf i).toNat)
  case atStart => exact ⟨0, by omega, rfl, Below.refl _ _⟩
  case round =>
    obtain ⟨k, hk, rfl, hb⟩ := hrel
    by_cases hlt : k < n
    · obtain ⟨b, off, rfl, hbl, hc⟩ := hcs (by omega)
      obtain ⟨b', off', rfl, hbl', hc'⟩ := hcs' (by omega)
      obtain ⟨d0, d1, d2, d3, d4⟩ := hc k hlt
      obtain ⟨x0, x1, x2, x3, x4⟩ := hc' k hlt
      have RG := (HPG.out k hlt).below hb
      have RG' := (HPG'.out k hlt).below hb
      have FG := HF.out k hlt
      have SA := HS.out.at k
      obtain ⟨⟨no, h, D, d, fi⟩, hv⟩ : ∃ v, v = fs.getD k zeroF := ⟨_, rfl⟩
      obtain ⟨⟨no', h', D', d', fi'⟩, hv'⟩ : ∃ v, v = gs.getD k zeroF := ⟨_, rfl⟩
      rw [← hv] at d0 d1 d2 d3 d4 RG FG SA
      rw [← hv'] at x0 x1 x2 x3 x4 RG' SA
      simp only [saysF, Prod.mk.injEq] at SA
      obtain ⟨rfl, rfl, rfl, rfl⟩ := SA
      dsimp only at d0 d1 d2 d3 d4 RG FG x0 x1 x2 x3 x4 RG'
      have e0 := (hb.cell (p := ⟨b, off + k * 5, none⟩) hbl).trans d0
      have e1 := (hb.cell (p := ⟨b, off + k * 5 + 1, none⟩) hbl).trans d1
      have e2 := (hb.cell (p := ⟨b, off + k * 5 + 2, none⟩) hbl).trans d2
      have e3 := (hb.cell (p := ⟨b, off + k * 5 + 3, none⟩) hbl).trans d3
      have e4 := (hb.cell (p := ⟨b, off + k * 5 + 4, none⟩) hbl).trans d4
      have y0 := (hb.cell (p := ⟨b', off' + k * 5, none⟩) hbl').trans x0
      have y1 := (hb.cell (p := ⟨b', off' + k * 5 + 1, none⟩) hbl').trans x1
      have y2 := (hb.cell (p := ⟨b', off' + k * 5 + 2, none⟩) hbl').trans x2
      have y3 := (hb.cell (p := ⟨b', off' + k * 5 + 3, none⟩) hbl').trans x3
      have y4 := (hb.cell (p := ⟨b', off' + k * 5 + 4, none⟩) hbl').trans x4
      have g1 : (0 : Int) ≤ (k : Int) := by omega
      have g2 : (k : Int) < (n : Int) := by omega
      have C : Hid (∀ wx, Below wr.heap.size wr wx → Calls Tryd.prog 59 #[.agg #[.int .i64 no, .int .i64 h.l, .slice h.a h.n h.c, .bool d, .int .i64 fi], .agg #[.int .i64 no, .int .i64 h'.l, .slice h'.a h'.n h'.c, .bool d, .int .i64 fi]] wx fun e w' => e = .returned (.bool true) ∧ Below wx.heap.size wx w') := fun wx hx => c_eqF1 no fi d h h' D wx (RG.below hx) (RG'.below hx) FG
      clear hc hc' hcs hcs' hv hv' RG RG' FG HPG HPG' HF HS d0 d1 d2 d3 d4 x0 x1 x2 x3 x4
      go_wp2_with fail
      go_region_held3 (fun x => x.cell? ⟨b, off + k * 5, none⟩ = some (.int .i64 no) ∧ x.cell? ⟨b, off + k * 5 + 1, none⟩ = some (.int .i64 h.l) ∧ x.cell? ⟨b, off + k * 5 + 2, none⟩ = some (.slice h.a h.n h.c) ∧ x.cell? ⟨b, off + k * 5 + 3, none⟩ = some (.bool d) ∧ x.cell? ⟨b, off + k * 5 + 4, none⟩ = some (.int .i64 fi) ∧ x.cell? ⟨b', off' + k * 5, none⟩ = some (.int .i64 no) ∧ x.cell? ⟨b', off' + k * 5 + 1, none⟩ = some (.int .i64 h'.l) ∧ x.cell? ⟨b', off' + k * 5 + 2, none⟩ = some (.slice h'.a h'.n h'.c) ∧ x.cell? ⟨b', off' + k * 5 + 3, none⟩ = some (.bool d) ∧ x.cell? ⟨b', off' + k * 5 + 4, none⟩ = some (.int .i64 fi))
        (first | go_keep | (exact ⟨far6 hb3 e0, far6 hb3 e1, far6 hb3 e2, far6 hb3 e3, far6 hb3 e4, far6 hb3 y0, far6 hb3 y1, far6 hb3 y2, far6 hb3 y3, far6 hb3 y4⟩))
        (first | (go_at_call 59; refine (C.out _ (by first | exact below_drewN (Below.refl _ _) _ | exact Below.refl _ _)).mono ?_; rintro e w3 ⟨rfl, hb3⟩))
      have hb' : Below w.heap.size w w3 := hb.drew.trans (hb3.mono hb.size)
      clear hb3 e0 e1 e2 e3 e4 y0 y1 y2 y3 y4 C
      go_wp2
      go_roundw
      case rel => exact ⟨k + 1, by omega, by go_num, hb'⟩
      case measure => simp [intOf]; omega
    · have e : k = n := by omega
      subst e
      go_wp2
      go_ret
      exact ⟨rfl, hb⟩

end Go.Proofs.YtcokbogicbdoaaaDoor
