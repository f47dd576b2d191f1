/-
  The specification's walk over a tree: its state, and what it asks of a node.
-/
import Derived.Test.YthnggpjgajkaeaaMe
import Derived.Deep.RegionHeld3
import Derived.Deep.RegionLawGrows
namespace Go.Proofs.Ythnggpjgajkaeaa
open Go Go.RowKit
attribute [local go_sem ↓] Go.wp_at_zero Go.wp_at_succ

theorem step_app_any {P : Program} (w : World) {ops : Array Oper} {o : Oper} {a : Act} {K : Act → World → Prop} {Q : Exit → Act → World → Prop} {E : Prop} (hgd : o.guard = none) (s x : Operand) (t : TypeId)
    (ho : o.op = .call { callee := .builtin .append, args := #[s, x], argTypes := #[t, t] })
    (base : Nat) (e : TypeId) (i : TypeInfo) (z : Value) (size bytes : Nat) (ht : P.underlying t = some (.slice e)) (hi : P.info? e = some i) (hz : i.zero = some z)
    (hsize : i.size = size) (hby : i.bytes = bytes) (hzs : z.cells.size = size) (hsz : 0 < size)
    (v : Value) (n : Nat) (xs : List Value) (hs : a.eval s = v) (hown : w.ownsRow base e size v n xs)
    (ax : Option Addr) (m c : Nat) (news : List Value) (hx : a.eval x = .slice ax m c) (hnone : ax = none → m = 0 ∧ c = 0) (hl : news.length = m * size) (hnews : ∀ ad, ax = some ad → ∀ j u, news[j]? = some u → w.cell? (ad.add j) = some u) (h1 : ∀ u ∈ news, u.oneCell' = true)
    (h63 : n + m ≤ maxLen) (hbytes : (n + m) * bytes ≤ 140737488355328) (hbase : base ≤ w.heap.size)
    (h : ∀ a' c' w', w'.ownsRow base e size (.slice a' (n + m) c') (n + m) (xs ++ news) → w.grownBy w' v.ownBlock → (∀ g, ob a' = some g → v.ownBlock = some g ∨ g = w.heap.size) → K (a.put o.dst (.slice a' (n + m) c')) w') :
    if Region.wanted o (yielded ops a.tmps) = true then Oper.wp P o a w K Q else E := by
  have hw : Region.wanted o (yielded ops a.tmps) = true := by simp [Region.wanted, hgd]
  rw [if_pos hw]
  cases ax with
  | none =>
    obtain ⟨rfl, rfl⟩ := hnone rfl
    have hn : news = [] := List.eq_nil_of_length_eq_zero (by simpa using hl)
    subst hn
    obtain ⟨a', c', rfl, _⟩ := own_slc hown
    have hrun := run_append_owned_none (P := P) (w := w) base t o.type e i size ht hi _ n xs hown
    unfold Oper.wp execOp
    simp only [ho, resolve, invoke, builtin, Sem.run_bind, Sem.run_pure, Result.andThen_ok, List.map_toArray, List.map_cons, List.map_nil, hs, hx, hrun]
    exact h a' c' w (by simpa using hown) (World.grownBy.refl _ _) (fun g e => .inl (by rw [ob_slice]; exact e))
  | some ad =>
    obtain ⟨v', w', hr, hown', hgr, _, hblk⟩ := run_append_own_at (P := P) w base t o.type e i z size bytes ht hi hz hsize hby hzs hsz v n xs hown ad m c news hl (hnews ad rfl) h1 h63 hbytes hbase
    obtain ⟨a', c', rfl, _⟩ := own_slc hown'
    rw [ob_slice] at hblk
    unfold Oper.wp execOp
    simp only [ho, resolve, invoke, builtin, Sem.run_bind, Sem.run_pure, Result.andThen_ok, List.map_toArray, List.map_cons, List.map_nil, hs, hx, hr]
    exact h a' c' w' hown' hgr (fun g e => hblk.elim (fun k => .inl (k ▸ e)) (fun k => .inr (Option.some.inj (e.symm.trans k))))

/-- All that is asked of a node and what is below it. -/
structure WFine (L : List ND) (ro : Int) (m : List Bool) (k : Int) (f : Fo) (m' : List Bool) (d : Nat) : Prop where
  is : C1 L m k = some (f, m')
  ne : k ≠ ro → (at' L k).2.1 ≠ []
  lv : lvT f d
  sg : f.sg (at' L k).2.1 0
def WNot (L : List ND) (ro : Int) (m : List Bool) (k : Int) : Prop := ∀ f m' d, ¬ WFine L ro m k f m' d
theorem WNot.of {L : List ND} {ro : Int} {m : List Bool} {k : Int} (h : okN L m k = false) : WNot L ro m k := fun f m' d w => by have := C1_ok w.is; rw [h] at this; cases this
structure LoopOK (L : List ND) (m1 : List Bool) (js : List Int) (ks : List ByteArray) (mk : List Bool) (n : Nat) (f : Fo) (dep : Nat) (K K' : List ByteArray) : Prop where
  len : f.len = n
  cl : CL L m1 js = preC f (CL L mk (js.drop n))
  lv : LvF f dep
  sg : f.sg ks 0
  keys : K' = K ++ f.all
theorem LoopOK.start (L : List ND) (m1 : List Bool) (js : List Int) (ks K : List ByteArray) : LoopOK L m1 js ks m1 0 .nil 0 K K :=
  ⟨rfl, by rw [List.drop_zero]; cases CL L m1 js with | none => rfl | some p => rfl, ⟨fun _ => rfl, fun h => absurd h (by simp [Fo.len])⟩, trivial, by simp [Fo.all]⟩
theorem dropI {js : List Int} {n : Nat} (h : n < js.length) : js.drop n = js.getD n 0 :: js.drop (n + 1) := by
  rw [List.drop_eq_getElem_cons h, List.getD_eq_getElem?_getD, List.getElem?_eq_getElem h]; rfl
theorem C1_is {L : List ND} {m : List Bool} {k : Int} (h : okN L m k = true) : C1 L m k = CL L (m.set k.toNat true) (at' L k).2.2 := by unfold C1; rw [h]; rfl
theorem kid_of_fine {L : List ND} {ro : Int} {m m1 mk M : List Bool} {k : Int} {js : List Int} {ks K K' : List ByteArray} {n dep D : Nat} {f F : Fo} (hm : m.set k.toNat true = m1) (hjs : (at' L k).2.2 = js) (hks : (at' L k).2.1 = ks) (LO : LoopOK L m1 js ks mk n f dep K K') (hn : n < js.length) (hF : WFine L ro m k F M D) :
    ∃ l m2 g e, C1 L mk (js.getD n 0) = some (l, m2) ∧ (at' L (js.getD n 0)).2.1 ≠ [] ∧ F = f.app (.node (at' L (js.getD n 0)).2.1 l g) ∧ D = e + 1 ∧ F.lv e ∧ F.sg ks 0 := by
  have h1 := hF.is
  rw [C1_is (C1_ok hF.is), hm, hjs, LO.cl, dropI hn] at h1
  cases hc : C1 L mk (js.getD n 0) with
  | none => rw [CL_none _ hc] at h1; cases h1
  | some p =>
    obtain ⟨l, m2⟩ := p
    rw [CL_some _ hc] at h1
    by_cases he : (at' L (js.getD n 0)).2.1 = []
    · rw [if_pos he] at h1; cases h1
    · rw [if_neg he] at h1
      cases hd : CL L m2 (js.drop (n + 1)) with
      | none => rw [hd] at h1; cases h1
      | some p =>
        obtain ⟨g, m3⟩ := p
        rw [hd] at h1
        simp only [joinC, preC, Option.some.injEq, Prod.mk.injEq] at h1
        obtain ⟨rfl, rfl⟩ := h1
        have hs := hF.sg
        rw [hks] at hs
        rcases hF.lv with ⟨h', _⟩ | ⟨_, e, rfl, hl⟩
        · have := (Fo.isNil_len _).1 h'; rw [Fo.len_app, Fo.len] at this; omega
        · exact ⟨l, m2, g, e, rfl, he, rfl, rfl, hl, hs⟩
theorem kid_bad {L : List ND} {ro : Int} {m m1 mk : List Bool} {k : Int} {js : List Int} {ks K K' : List ByteArray} {n dep : Nat} {f : Fo} (hm : m.set k.toNat true = m1) (hjs : (at' L k).2.2 = js) (hks : (at' L k).2.1 = ks) (LO : LoopOK L m1 js ks mk n f dep K K') (hn : n < js.length) (hb : WNot L ro mk (js.getD n 0)) : WNot L ro m k := by
  intro F M D hF
  obtain ⟨l, m2, g, e, h1, h2, rfl, rfl, h5, h6⟩ := kid_of_fine hm hjs hks LO hn hF
  rw [Fo.lv_app, Fo.lv_node] at h5
  rw [Fo.sg_app] at h6
  exact hb l m2 e ⟨h1, fun _ => h2, h5.2.1, h6.2.2.1⟩
theorem depth_bad {L : List ND} {ro : Int} {m m1 mk m2 : List Bool} {k : Int} {js : List Int} {ks K K' : List ByteArray} {n dep d : Nat} {f l : Fo} (hm : m.set k.toNat true = m1) (hjs : (at' L k).2.2 = js) (hks : (at' L k).2.1 = ks) (LO : LoopOK L m1 js ks mk n f dep K K') (hn : n < js.length) (hk : WFine L ro mk (js.getD n 0) l m2 d) (h0 : 0 < n) (hd : d ≠ dep) : WNot L ro m k := by
  intro F M D hF
  obtain ⟨l', m2', g, e, h1, h2, rfl, rfl, h5, h6⟩ := kid_of_fine hm hjs hks LO hn hF
  rw [hk.is] at h1
  simp only [Option.some.injEq, Prod.mk.injEq] at h1
  obtain ⟨rfl, rfl⟩ := h1
  rw [Fo.lv_app, Fo.lv_node] at h5
  have e1 := lvT_uniq h5.2.1 hk.lv
  have hf : f.isNil = false := by cases hf : f.isNil; · rfl
                                  · have := (Fo.isNil_len f).1 hf; rw [LO.len] at this; omega
  have e2 := Fo.lv_uniq f _ _ hf h5.1 (LO.lv.2 (by rw [LO.len]; exact h0)).2
  omega
theorem key_bad {L : List ND} {ro : Int} {m m1 mk m2 : List Bool} {k : Int} {js : List Int} {ks K K' : List ByteArray} {n dep d : Nat} {f l : Fo} (hm : m.set k.toNat true = m1) (hjs : (at' L k).2.2 = js) (hks : (at' L k).2.1 = ks) (LO : LoopOK L m1 js ks mk n f dep K K') (hn : n < js.length) (hk : WFine L ro mk (js.getD n 0) l m2 d) (h0 : 0 < n) (hd : leastT (at' L (js.getD n 0)).2.1 l ≠ ks.getD (n - 1) zS) : WNot L ro m k := by
  intro F M D hF
  obtain ⟨l', m2', g, e, h1, h2, rfl, rfl, h5, h6⟩ := kid_of_fine hm hjs hks LO hn hF
  rw [hk.is] at h1
  simp only [Option.some.injEq, Prod.mk.injEq] at h1
  obtain ⟨rfl, rfl⟩ := h1
  rw [Fo.sg_app, Fo.sg, LO.len] at h6
  have := h6.2.1 (by omega)
  rw [Nat.zero_add] at this
  exact hd this.symm
theorem kid_good {L : List ND} {ro : Int} {m1 mk m2 : List Bool} {js : List Int} {ks K K' : List ByteArray} {n dep d : Nat} {f l : Fo} (LO : LoopOK L m1 js ks mk n f dep K K') (hn : n < js.length) (hro : js.getD n 0 ≠ ro) (hk : WFine L ro mk (js.getD n 0) l m2 d) (hd : 0 < n → d = dep) (hy : 0 < n → leastT (at' L (js.getD n 0)).2.1 l = ks.getD (n - 1) zS) : LoopOK L m1 js ks m2 (n + 1) (f.app (.node (at' L (js.getD n 0)).2.1 l .nil)) d K (K' ++ allT (at' L (js.getD n 0)).2.1 l) := by
  have hLI : LvIs l d := fun x => ⟨fun h => ⟨lvT_uniq hk.lv h, lvT_pos h⟩, fun h => h.1 ▸ hk.lv⟩
  refine ⟨by rw [Fo.len_step, LO.len], ?_, LO.lv.step hLI (by have := lvT_pos hk.lv; omega) (fun h => hd (by rw [← LO.len]; exact h)), ?_, ?_⟩
  · rw [LO.cl, dropI hn, CL_some _ hk.is, if_neg (hk.ne hro), preC_join]
  · rw [Fo.sg_app, Fo.sg]
    exact ⟨LO.sg, fun h => by rw [LO.len, Nat.zero_add] at h ⊢; exact (hy h).symm, hk.sg, trivial⟩
  · rw [LO.keys, Fo.all_app, Fo.all_node, Fo.all, List.append_nil, List.append_assoc]
theorem loop_end {L : List ND} {ro : Int} {m m1 mk : List Bool} {k : Int} {js : List Int} {ks K K' : List ByteArray} {n dep : Nat} {f : Fo} (hok : okN L m k = true) (hm : m.set k.toNat true = m1) (hjs : (at' L k).2.2 = js) (hks : (at' L k).2.1 = ks) (LO : LoopOK L m1 js ks mk n f dep K K') (hn : n = js.length) (h2 : 2 ≤ n) (hne : ks ≠ []) : WFine L ro m k f mk (dep + 1) ∧ K' = K ++ allT ks f := by
  have hf : f.isNil = false := by cases hf : f.isNil; · rfl
                                  · have := (Fo.isNil_len f).1 hf; rw [LO.len] at this; omega
  refine ⟨⟨?_, fun _ => by rw [hks]; exact hne, (lv_yes LO.lv (dep + 1)).2 ⟨rfl, by omega⟩, by rw [hks]; exact LO.sg⟩, ?_⟩
  · rw [C1_is hok, hm, hjs, LO.cl, List.drop_eq_nil_of_le (by omega), CL_nil, preC, Fo.app_nil]
  · rw [allT_kids hf]; exact LO.keys
theorem leaf_end {L : List ND} {ro : Int} {m m1 : List Bool} {k : Int} {ks : List ByteArray} (hok : okN L m k = true) (hm : m.set k.toNat true = m1) (hjs : (at' L k).2.2 = []) (hks : (at' L k).2.1 = ks) (hne : k ≠ ro → ks ≠ []) : WFine L ro m k .nil m1 1 ∧ allT ks .nil = ks :=
  ⟨⟨by rw [C1_is hok, hm, hjs, CL_nil], fun h => by rw [hks]; exact hne h, .inl ⟨rfl, rfl⟩, trivial⟩, rfl⟩
/-! ### The walk's state -/
structure Lk (w : World) (xb sb : Nat) (ro : Int) (la : Option Addr) (ln lc z : Nat) (m : List Bool) (ok : Bool) (K : List ByteArray) (ya : Option Addr) (yc : Nat) : Prop where
  box : Box w xb 108 #[.int .i64 ro, .slice la ln lc, .slice (some ⟨sb, 0, none⟩) ln ln, .bool ok, .slice ya K.length yc]
  seen : w.ownsRow z 4 1 (.slice (some ⟨sb, 0, none⟩) ln ln) ln (m.map Value.bool)
  keys : w.ownsRow z 9 1 (.slice ya K.length yc) K.length (K.map Value.string)
  ne1 : xb ≠ sb
  ne2 : ∀ g, ob ya = some g → g ≠ xb ∧ g ≠ sb
  xz : z ≤ xb
structure Fr (xb sb : Nat) (ya ya' : Option Addr) (w w' : World) : Prop where
  os : w'.os = w.os
  tape : w'.tape = w.tape
  output : w'.output = w.output
  size : w.heap.size ≤ w'.heap.size
  block : ∀ g, g < w.heap.size → g ≠ xb → g ≠ sb → ob ya ≠ some g → w'.heap[g]? = w.heap[g]?
  new : ∀ g, ob ya' = some g → ob ya = some g ∨ w.heap.size ≤ g
theorem Fr.refl (xb sb : Nat) (ya : Option Addr) (w : World) : Fr xb sb ya ya w w := ⟨rfl, rfl, rfl, Nat.le_refl _, fun _ _ _ _ _ => rfl, fun _ h => .inl h⟩
theorem Fr.trans {xb sb : Nat} {ya yb yc : Option Addr} {u v w : World} (h : Fr xb sb ya yb u v) (k : Fr xb sb yb yc v w) : Fr xb sb ya yc u w :=
  ⟨k.os.trans h.os, k.tape.trans h.tape, k.output.trans h.output, Nat.le_trans h.size k.size, fun g h1 h2 h3 h4 => (k.block g (Nat.lt_of_lt_of_le h1 h.size) h2 h3 (fun e => (h.new g e).elim h4 (fun q => by omega))).trans (h.block g h1 h2 h3 h4), fun g e => (k.new g e).elim (fun q => h.new g q) (fun q => .inr (Nat.le_trans h.size q))⟩
theorem Fr.of_below {xb sb : Nat} {ya : Option Addr} {w w' : World} (h : Below w.heap.size w w') : Fr xb sb ya ya w w' := ⟨h.os, h.tape, h.output, h.size, fun g hg _ _ _ => h.block g hg, fun _ e => .inl e⟩
theorem Fr.of_set {xb sb : Nat} {ya : Option Addr} (w : World) (p : Addr) (v : Value) (h : p.block = xb ∨ p.block = sb) : Fr xb sb ya ya w (w.setCell p v) := ⟨rfl, rfl, rfl, by simp, fun g _ h1 h2 _ => Below.heap_setCell w p v g (by omega), fun _ e => .inl e⟩
theorem Fr.below {xb sb z : Nat} {ya ya' : Option Addr} {w w' : World} (h : Fr xb sb ya ya' w w') (h1 : z ≤ xb) (h2 : z ≤ sb) (h3 : ∀ g, ob ya = some g → z ≤ g) (h4 : z ≤ w.heap.size) : Below z w w' :=
  ⟨h.os, h.tape, h.output, h.size, fun g hg => h.block g (by omega) (by omega) (by omega) (fun e => by have := h3 g e; omega)⟩
theorem Lk.sz {w : World} {xb sb : Nat} {ro : Int} {la : Option Addr} {ln lc z : Nat} {m : List Bool} {ok : Bool} {K : List ByteArray} {ya : Option Addr} {yc : Nat} (h : Lk w xb sb ro la ln lc z m ok K ya yc) : xb < w.heap.size ∧ z ≤ sb ∧ sb < w.heap.size ∧ (∀ g, ob ya = some g → z ≤ g ∧ g < w.heap.size) := by
  have k1 := h.seen.lt sb rfl
  exact ⟨h.box.lt, k1.1, k1.2, fun g hg => by
    rcases own_form h.keys with ⟨h1, _⟩ | ⟨g', cp, h1, h2, h3⟩
    · simp only [Value.slice.injEq] at h1; obtain ⟨rfl, _, _⟩ := h1; cases hg
    · simp only [Value.slice.injEq] at h1; obtain ⟨rfl, _, rfl⟩ := h1; cases hg; exact ⟨h2, h3⟩⟩
theorem Lk.belowZ {w w' : World} {xb sb : Nat} {ro : Int} {la : Option Addr} {ln lc z : Nat} {m : List Bool} {ok : Bool} {K : List ByteArray} {ya ya' : Option Addr} {yc : Nat} (h : Lk w xb sb ro la ln lc z m ok K ya yc) (hf : Fr xb sb ya ya' w w') (hz : z ≤ w.heap.size) : Below z w w' := hf.below h.xz h.sz.2.1 (fun g e => (h.sz.2.2.2 g e).1) hz
theorem Lk.below {w w' : World} {xb sb : Nat} {ro : Int} {la : Option Addr} {ln lc z : Nat} {m : List Bool} {ok : Bool} {K : List ByteArray} {ya : Option Addr} {yc : Nat} (h : Lk w xb sb ro la ln lc z m ok K ya yc) (hb : Below w.heap.size w w') : Lk w' xb sb ro la ln lc z m ok K ya yc :=
  ⟨h.box.belowS hb, own_below h.seen hb, own_below h.keys hb, h.ne1, h.ne2, h.xz⟩
theorem Lk.setok {w : World} {xb sb : Nat} {ro : Int} {la : Option Addr} {ln lc z : Nat} {m : List Bool} {ok : Bool} {K : List ByteArray} {ya : Option Addr} {yc : Nat} (h : Lk w xb sb ro la ln lc z m ok K ya yc) (b : Bool) : Lk (w.setCell ⟨xb, 3, none⟩ (.bool b)) xb sb ro la ln lc z m b K ya yc :=
  ⟨h.box.set 3 (.bool b), own_same h.seen fun g e => by cases e; exact Below.heap_setCell w _ _ _ (Ne.symm h.ne1), own_same h.keys fun g e => Below.heap_setCell w _ _ _ (by rw [ob_slice] at e; exact (h.ne2 g e).1), h.ne1, h.ne2, h.xz⟩
theorem Lk.see {w : World} {xb sb : Nat} {ro : Int} {la : Option Addr} {ln lc z : Nat} {m : List Bool} {ok : Bool} {K : List ByteArray} {ya : Option Addr} {yc : Nat} (h : Lk w xb sb ro la ln lc z m ok K ya yc) (j : Nat) : Lk (w.setCell ⟨sb, j, none⟩ (.bool true)) xb sb ro la ln lc z (m.set j true) ok K ya yc :=
  ⟨h.box.setOther _ _ h.ne1, by rw [List.map_set]; exact (h.seen.stored j (.bool true)).1, own_same h.keys fun g e => Below.heap_setCell w _ _ _ (by rw [ob_slice] at e; exact (h.ne2 g e).2), h.ne1, h.ne2, h.xz⟩
theorem Lk.seenAt {w : World} {xb sb : Nat} {ro : Int} {la : Option Addr} {ln lc z : Nat} {m : List Bool} {ok : Bool} {K : List ByteArray} {ya : Option Addr} {yc : Nat} (h : Lk w xb sb ro la ln lc z m ok K ya yc) {j : Nat} (hj : j < ln) (hm : m.length = ln) : w.cell? ⟨sb, j, none⟩ = some (.bool (m.getD j true)) ∧ w.frozen? ⟨sb, j, none⟩ = false :=
  ⟨(h.seen.cellAt j (by omega)).trans (map_get _ _ _ _ (by omega)), h.seen.frozenAt j⟩
/-- Keys that are put behind the others. -/
theorem Lk.grow {w w' : World} {xb sb : Nat} {ro : Int} {la : Option Addr} {ln lc z : Nat} {m : List Bool} {ok : Bool} {K ks : List ByteArray} {ya ya' : Option Addr} {yc yc' : Nat} (h : Lk w xb sb ro la ln lc z m ok K ya yc) (ho : w'.ownsRow z 9 1 (.slice ya' (K.length + ks.length) yc') (K.length + ks.length) (K.map Value.string ++ ks.map Value.string)) (hg : w.grownBy w' (ob ya)) (hx : ∀ g, ob ya' = some g → ob ya = some g ∨ g = w.heap.size) :
    Lk (w'.setCell ⟨xb, 4, none⟩ (.slice ya' (K.length + ks.length) yc')) xb sb ro la ln lc z m ok (K ++ ks) ya' yc' ∧ Fr xb sb ya ya' w (w'.setCell ⟨xb, 4, none⟩ (.slice ya' (K.length + ks.length) yc')) ∧ w'.cell? ⟨xb, 4, none⟩ = some (.slice ya K.length yc) ∧ w'.frozen? ⟨xb, 4, none⟩ = false := by
  have s := h.sz
  have bx : Box w' xb 108 #[.int .i64 ro, .slice la ln lc, .slice (some ⟨sb, 0, none⟩) ln ln, .bool ok, .slice ya K.length yc] := h.box.grown hg (fun e => (h.ne2 xb e).1 rfl)
  have hne : ∀ g, ob ya' = some g → g ≠ xb ∧ g ≠ sb := fun g e => (hx g e).elim (fun q => h.ne2 g q) (fun q => by omega)
  refine ⟨⟨?_, ?_, ?_, h.ne1, hne, h.xz⟩, ⟨hg.os, hg.tape, hg.output, by have := hg.size; simpa using this, fun g h1 h2 h3 h4 => (Below.heap_setCell w' _ _ g h2).trans (hg.block g h1 (fun e => h4 e.symm)), fun g e => (hx g e).elim .inl (fun q => .inr (by omega))⟩, bx.cell 4, bx.thaw 4⟩
  · rw [List.length_append]; exact bx.set 4 _
  · exact own_same (h.seen.kept hg (by rw [ob_slice]; exact .inr fun e => (h.ne2 sb e.symm).2 rfl)) fun g e => by cases e; exact Below.heap_setCell w' _ _ _ (Ne.symm h.ne1)
  · rw [List.length_append, List.map_append]; exact own_same ho fun g e => Below.heap_setCell w' _ _ _ (by rw [ob_slice] at e; exact (hne g e).1)

end Go.Proofs.Ythnggpjgajkaeaa
