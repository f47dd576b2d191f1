/-
  Branches as they lie in memory: what they read as; leaves, levels, least keys.
-/
import Derived.Test.YthnggpjgajkaeaaMa
import Derived.Test.YthnggpjgajkaeaaYq
namespace Go.Proofs.Ythnggpjgajkaeaa
open Go Go.RowKit
attribute [local go_sem ↓] Go.wp_at_zero Go.wp_at_succ

/-- A slice that reads as xs, in a block that A allows. -/
def RdS (w : World) (A : Nat → Prop) (a : Option Addr) (n : Nat) (xs : List Value) : Prop :=
  xs.length = n ∧ (0 < n → ∃ b off, a = some ⟨b, off, none⟩ ∧ b < w.heap.size ∧ A b ∧ ∀ i, i < n → w.cell? ⟨b, off + i, none⟩ = xs[i]?)
theorem RdS.rd {w : World} {A : Nat → Prop} {a : Option Addr} {n : Nat} {xs : List Value} (h : RdS w A a n xs) : RdV w a n xs :=
  ⟨h.1, fun hn => by obtain ⟨b, off, e, hl, _, hc⟩ := h.2 hn; exact ⟨b, off, e, hl, hc⟩⟩
theorem RdS.of {w : World} {A : Nat → Prop} {a : Option Addr} {n : Nat} {xs : List Value} (h : RdV w a n xs) (hA : ∀ b, b < w.heap.size → A b) : RdS w A a n xs :=
  ⟨h.1, fun hn => by obtain ⟨b, off, e, hl, hc⟩ := h.2 hn; exact ⟨b, off, e, hl, hA b hl, hc⟩⟩
theorem cell_same {w w' : World} {p : Addr} (h : w'.heap[p.block]? = w.heap[p.block]?) : w'.cell? p = w.cell? p := World.cell?_of_block h
theorem RdS.keep {w w' : World} {A A' : Nat → Prop} {a : Option Addr} {n : Nat} {xs : List Value} (h : RdS w A a n xs) (hs : w.heap.size ≤ w'.heap.size) (hk : ∀ g, g < w.heap.size → A g → w'.heap[g]? = w.heap[g]? ∧ A' g) : RdS w' A' a n xs :=
  ⟨h.1, fun hn => by
    obtain ⟨b, off, e, hl, hA, hc⟩ := h.2 hn
    exact ⟨b, off, e, by omega, (hk b hl hA).2, fun i hi => (cell_same (p := ⟨b, off + i, none⟩) (hk b hl hA).1).trans (hc i hi)⟩⟩
def ptr (p : Nat) : Value := .pointer (some ⟨p, 0, none⟩)
/-- The branches at ps are the trees of a forest, all their blocks being such as A allows. -/
def RdF (w : World) (A : Nat → Prop) : Fo → List Nat → Prop
  | .nil, ps => ps = []
  | .node ks k r, ps => ∃ p qs, ps = p :: qs ∧ (p < w.heap.size ∧ A p ∧ ∃ ka kc ia ic pl us, w.cell? ⟨p, 0, none⟩ = some (.slice ka ks.length kc) ∧ w.cell? ⟨p, 1, none⟩ = some (.slice ia k.len ic) ∧ w.cell? ⟨p, 2, none⟩ = some (.int .i64 pl) ∧ RdS w A ka ks.length (ks.map Value.string) ∧ (ka = none → kc = 0) ∧ RdS w A ia k.len (us.map ptr) ∧ RdF w A k us) ∧ RdF w A r qs
def RdB (w : World) (A : Nat → Prop) (p : Nat) (ks : List ByteArray) (k : Fo) : Prop := p < w.heap.size ∧ A p ∧ ∃ ka kc ia ic pl us, w.cell? ⟨p, 0, none⟩ = some (.slice ka ks.length kc) ∧ w.cell? ⟨p, 1, none⟩ = some (.slice ia k.len ic) ∧ w.cell? ⟨p, 2, none⟩ = some (.int .i64 pl) ∧ RdS w A ka ks.length (ks.map Value.string) ∧ (ka = none → kc = 0) ∧ RdS w A ia k.len (us.map ptr) ∧ RdF w A k us
theorem RdF.node_iff {w : World} {A : Nat → Prop} {ks : List ByteArray} {k r : Fo} {ps : List Nat} : RdF w A (.node ks k r) ps ↔ ∃ p qs, ps = p :: qs ∧ RdB w A p ks k ∧ RdF w A r qs := Iff.rfl
theorem RdF.len {w : World} {A : Nat → Prop} : ∀ {f : Fo} {ps : List Nat}, RdF w A f ps → ps.length = f.len
  | .nil, ps, h => by have : ps = [] := h; rw [this]; rfl
  | .node ks k r, ps, h => by obtain ⟨p, qs, rfl, _, h2⟩ := RdF.node_iff.1 h; rw [List.length_cons, RdF.len h2, Fo.len]
theorem RdF.keep {w w' : World} {A A' : Nat → Prop} (hs : w.heap.size ≤ w'.heap.size) (hk : ∀ g, g < w.heap.size → A g → w'.heap[g]? = w.heap[g]? ∧ A' g) : ∀ {f : Fo} {ps : List Nat}, RdF w A f ps → RdF w' A' f ps
  | .nil, _, h => h
  | .node ks k r, ps, h => by
    obtain ⟨p, qs, e, ⟨hl, hA, ka, kc, ia, ic, pl, us, c0, c1, c2, s0, sn, s1, hf⟩, h2⟩ := RdF.node_iff.1 h
    have q := hk p hl hA
    exact ⟨p, qs, e, ⟨by omega, q.2, ka, kc, ia, ic, pl, us, (cell_same (p := ⟨p, 0, none⟩) q.1).trans c0, (cell_same (p := ⟨p, 1, none⟩) q.1).trans c1, (cell_same (p := ⟨p, 2, none⟩) q.1).trans c2, s0.keep hs hk, sn, s1.keep hs hk, RdF.keep hs hk hf⟩, RdF.keep hs hk h2⟩
theorem RdB.keep {w w' : World} {A A' : Nat → Prop} {p : Nat} {ks : List ByteArray} {k : Fo} (h : RdB w A p ks k) (hs : w.heap.size ≤ w'.heap.size) (hk : ∀ g, g < w.heap.size → A g → w'.heap[g]? = w.heap[g]? ∧ A' g) : RdB w' A' p ks k := by
  obtain ⟨p', qs, e, h1, _⟩ := RdF.node_iff.1 (RdF.keep hs hk (RdF.node_iff.2 ⟨p, [], rfl, h, rfl⟩ : RdF w A (.node ks k .nil) [p]))
  cases e
  exact h1
theorem RdB.below {w w' : World} {A : Nat → Prop} {p : Nat} {ks : List ByteArray} {k : Fo} (h : RdB w A p ks k) (hb : Below w.heap.size w w') : RdB w' A p ks k := h.keep hb.size fun g hg hA => ⟨hb.block g hg, hA⟩
theorem RdF.below {w w' : World} {A : Nat → Prop} {f : Fo} {ps : List Nat} (h : RdF w A f ps) (hb : Below w.heap.size w w') : RdF w' A f ps := RdF.keep hb.size (fun g hg hA => ⟨hb.block g hg, hA⟩) h
theorem RdF.at {w : World} {A : Nat → Prop} : ∀ {f g : Fo} {ks : List ByteArray} {k : Fo} {ps : List Nat}, RdF w A (f.app (.node ks k g)) ps → ∃ p, ps[f.len]? = some p ∧ RdB w A p ks k
  | .nil, g, ks, k, ps, h => by obtain ⟨p, qs, rfl, h1, _⟩ := RdF.node_iff.1 h; exact ⟨p, rfl, h1⟩
  | .node _ _ r, g, ks, k, ps, h => by
    obtain ⟨p, qs, rfl, _, h2⟩ := RdF.node_iff.1 h
    obtain ⟨p', e, h3⟩ := RdF.at (f := r) h2
    exact ⟨p', by simpa [Fo.len] using e, h3⟩
theorem RdF.app {w : World} {A : Nat → Prop} : ∀ {f : Fo} {ps : List Nat} {p : Nat} {ks : List ByteArray} {k : Fo}, RdF w A f ps → RdB w A p ks k → RdF w A (f.app (.node ks k .nil)) (ps ++ [p])
  | .nil, ps, p, ks, k, h, h1 => by have e : ps = [] := h; subst e; exact ⟨p, [], rfl, h1, rfl⟩
  | .node us l r, ps, p, ks, k, h, h1 => by
    obtain ⟨p', qs, rfl, h2, h3⟩ := RdF.node_iff.1 h
    exact ⟨p', qs ++ [p], rfl, h2, RdF.app h3 h1⟩
theorem Fo.sz_app : ∀ f g : Fo, (f.app g).sz = f.sz + g.sz
  | .nil, _ => by simp [Fo.app, Fo.sz]
  | .node ks k r, g => by rw [Fo.app, Fo.sz, Fo.sz, Fo.sz_app r]; omega
theorem Fo.split_at {k f g : Fo} {n : Nat} (e : k = f.app g) (hf : f.len = n) (h : n < k.len) : ∃ ks l r, g = .node ks l r ∧ l.sz < k.sz := by
  cases g with
  | nil => rw [e, Fo.app_nil, hf] at h; exact absurd h (Nat.lt_irrefl _)
  | node ks l r => exact ⟨ks, l, r, rfl, by rw [e, Fo.sz_app, Fo.sz]; omega⟩
theorem Fo.split_end {k f g : Fo} (e : k = f.app g) (hf : f.len = k.len) : k = f := by
  have : g.len = 0 := by have := congrArg Fo.len e; rw [Fo.len_app] at this; omega
  rw [e, Fo.nil_of_len this, Fo.app_nil]
theorem Fo.step_app (f : Fo) (ks : List ByteArray) (l r : Fo) : f.app (.node ks l r) = (f.app (.node ks l .nil)).app r := by rw [Fo.app_assoc]; rfl
theorem Fo.len_step (f : Fo) (ks : List ByteArray) (l : Fo) : (f.app (.node ks l .nil)).len = f.len + 1 := by rw [Fo.len_app]; rfl
theorem Fo.wf_app : ∀ (f g : Fo), (f.app g).wf ↔ f.wf ∧ g.wf
  | .nil, g => by simp [Fo.app, Fo.wf]
  | .node ks k r, g => by rw [Fo.app, Fo.wf, Fo.wf, Fo.wf_app r g]; simp only [and_assoc]
theorem len_le4 {k : Fo} {ks : List ByteArray} (h : ks.length ≤ 4) (h2 : k.len = 0 ∨ k.len = ks.length + 1) : k.len ≤ 5 := by omega
theorem map_ptr {us : List Nat} {i p : Nat} (h : us[i]? = some p) : (us.map ptr)[i]? = some (.pointer (some ⟨p, 0, none⟩)) := by rw [List.getElem?_map, h]; rfl

set_option maxRecDepth 100000 in
set_option maxHeartbeats 2000000 in
theorem c_leafB (p : Nat) (ia : Option Addr) (n ic : Nat) (w : World) (x1 : w.cell? ⟨p, 1, none⟩ = some (.slice ia n ic)) (hn : n ≤ 5) :
    Calls Try.prog 66 #[.pointer (some ⟨p, 0, none⟩)] w fun e w' => e = .returned (.bool (decide (n = 0))) ∧ w' = w := by
  by_cases h : n = 0
  · subst h
    go_enter Try.func66, Try.ntmps66
    go_wp2
    go_ret
    exact ⟨rfl, rfl⟩
  · have h1 : ((n : Int) == 0) = false := by simp; omega
    go_enter Try.func66, Try.ntmps66
    go_wp2
    go_ret
    exact ⟨ret_bool (by simp [h]), rfl⟩
theorem isNil_dec (k : Fo) : decide (k.len = 0) = k.isNil := by cases k <;> simp [Fo.isNil, Fo.len]
set_option maxRecDepth 100000 in
set_option maxHeartbeats 2000000 in
theorem c_least : ∀ (N : Nat) (k : Fo) (ks : List ByteArray) (A : Nat → Prop) (p : Nat) (w : World), k.sz < N → RdB w A p ks k → ks ≠ [] → k.wf → k.len ≤ 5 → Calls Try.prog 93 #[.pointer (some ⟨p, 0, none⟩)] w fun e w' => e = .returned (.string (leastT ks k)) ∧ w' = w := by
  intro N
  induction N with
  | zero => intro k ks A p w h; exact absurd h (by omega)
  | succ N ih =>
    intro k ks A p w hN hB hne hwf hl5
    obtain ⟨hlt, hA, ka, kc, ia, ic, pl, us, c0, c1, c2, s0, sn, s1, hF⟩ := hB
    have C1 := c_leafB p ia k.len ic w c1 hl5
    rw [isNil_dec] at C1
    cases hk : k.isNil
    · obtain ⟨ks', l, r, rfl⟩ : ∃ ks' l r, k = .node ks' l r := by cases k with | nil => simp [Fo.isNil] at hk | node a b c => exact ⟨a, b, c, rfl⟩
      obtain ⟨q, qs, rfl, hB', hF'⟩ := RdF.node_iff.1 hF
      obtain ⟨b, off, rfl, hbl, hAb, hc⟩ := s1.2 (by simp [Fo.len])
      have d0 : w.cell? ⟨b, off, none⟩ = some (.pointer (some ⟨q, 0, none⟩)) := by have := hc 0 (by simp [Fo.len]); rw [Nat.add_zero] at this; rw [this]; rfl
      have CC := ih l ks' A q w (by rw [Fo.sz] at hN; omega) hB' hwf.1 hwf.2.2.2.1 (len_le4 hwf.2.1 hwf.2.2.1)
      have E : Hid (leastT ks (.node ks' l r) = leastT ks' l) := rfl
      obtain ⟨n, hn⟩ : ∃ n, r.len = n := ⟨_, rfl⟩
      rw [Fo.len, hn] at c1
      have g1 : (0 : Int) < (n : Int) + 1 := by omega
      rw [hk] at C1
      clear hc hF hB' hF' hwf s0 sn s1 hlt hA hAb hk hne hl5 hN ih
      go_enter Try.func93, Try.ntmps93
      go_wp2_with fail
      refine C1.mono ?_
      rintro e w' ⟨rfl, hq⟩; have hq' := hq.symm; subst hq'; clear hq C1
      go_wp2_with fail
      refine CC.mono ?_
      rintro e w' ⟨rfl, hq⟩; have hq' := hq.symm; subst hq'; clear hq CC
      go_wp2
      go_ret
      exact ⟨ret_str E.out.symm, rfl⟩
    · obtain ⟨s, ss, rfl⟩ : ∃ s ss, ks = s :: ss := by cases ks with | nil => exact absurd rfl hne | cons a b => exact ⟨a, b, rfl⟩
      obtain ⟨b, off, rfl, hbl, hAb, hc⟩ := s0.2 (by simp)
      have d0 : w.cell? ⟨b, off, none⟩ = some (.string s) := by have := hc 0 (by simp); rw [Nat.add_zero] at this; rw [this]; rfl
      have E : Hid (leastT (s :: ss) k = s) := by unfold Hid leastT; rw [hk]; rfl
      obtain ⟨n, hn⟩ : ∃ n, ss.length = n := ⟨_, rfl⟩
      rw [List.length_cons, hn] at c0
      have g1 : (0 : Int) < (n : Int) + 1 := by omega
      rw [hk] at C1
      clear hc hF hwf s0 sn s1 hlt hA hAb hk hne hl5 hN ih
      go_enter Try.func93, Try.ntmps93
      go_wp2_with fail
      refine C1.mono ?_
      rintro e w' ⟨rfl, hq⟩; have hq' := hq.symm; subst hq'; clear hq C1
      go_wp2
      go_ret
      exact ⟨ret_str E.out.symm, rfl⟩

/-- What levels answers: d, or 0 where there is no depth. -/
def LvIs (k : Fo) (n : Nat) : Prop := ∀ d, lvT k d ↔ (n = d ∧ 0 < d)
theorem LvIs.leaf {k : Fo} (h : k.isNil = true) : LvIs k 1 := fun d => by
  constructor
  · rintro (⟨_, rfl⟩ | ⟨h', _⟩)
    · exact ⟨rfl, by omega⟩
    · rw [h] at h'; cases h'
  · rintro ⟨rfl, _⟩; exact .inl ⟨h, rfl⟩
/-- The first kids: f has levels m (0 if there are none). -/
def LvF (f : Fo) (m : Nat) : Prop := (f.len = 0 → m = 0) ∧ (0 < f.len → 0 < m ∧ f.lv m)
theorem LvF.step {f : Fo} {ks : List ByteArray} {l : Fo} {m n : Nat} (h : LvF f m) (hn : LvIs l n) (h0 : n ≠ 0) (h1 : 0 < f.len → n = m) : LvF (f.app (.node ks l .nil)) n := by
  refine ⟨fun e => by rw [Fo.len_step] at e; omega, fun _ => ⟨by omega, ?_⟩⟩
  rw [Fo.lv_app]
  refine ⟨?_, (hn n).2 ⟨rfl, by omega⟩, trivial⟩
  rcases Nat.eq_zero_or_pos f.len with e | e
  · rw [Fo.nil_of_len e]; trivial
  · rw [h1 e]; exact (h.2 e).2
theorem lv_no {k f r l : Fo} {ks : List ByteArray} {m n : Nat} (e : k = f.app (.node ks l r)) (h : LvF f m) (hn : LvIs l n) (hbad : n = 0 ∨ (0 < f.len ∧ n ≠ m)) : LvIs k 0 := by
  intro d
  constructor
  · rintro (⟨h', _⟩ | ⟨_, d', rfl, hd⟩)
    · have := (Fo.isNil_len k).1 h'; rw [e, Fo.len_app, Fo.len] at this; omega
    · rw [e, Fo.lv_app, Fo.lv_node] at hd
      have q := (hn d').1 hd.2.1
      rcases hbad with rfl | ⟨h1, h2⟩
      · omega
      · have : f.isNil = false := by cases hf : f.isNil; · rfl
                                     · have := (Fo.isNil_len f).1 hf; omega
        have := Fo.lv_uniq f _ _ this hd.1 (h.2 h1).2
        omega
  · rintro ⟨rfl, h⟩; omega
theorem lv_yes {k : Fo} {m : Nat} (h : LvF k m) : LvIs k (m + 1) := by
  intro d
  rcases Nat.eq_zero_or_pos k.len with e | e
  · rw [h.1 e]; exact LvIs.leaf ((Fo.isNil_len k).2 e) d
  · have hn : k.isNil = false := by cases hf : k.isNil; · rfl
                                    · have := (Fo.isNil_len k).1 hf; omega
    constructor
    · rintro (⟨h', _⟩ | ⟨_, d', rfl, hd⟩)
      · rw [hn] at h'; cases h'
      · exact ⟨by rw [Fo.lv_uniq k _ _ hn hd (h.2 e).2], by omega⟩
    · rintro ⟨rfl, _⟩
      exact .inr ⟨hn, m, rfl, (h.2 e).2⟩
set_option maxRecDepth 100000 in
set_option maxHeartbeats 8000000 in
theorem c_levels : ∀ (N : Nat), N ≤ 1000 → ∀ (k : Fo) (ks : List ByteArray) (A : Nat → Prop) (p : Nat) (w : World), k.sz < N → RdB w A p ks k → k.wf → k.len ≤ 5 → Calls Try.prog 51 #[.pointer (some ⟨p, 0, none⟩)] w fun e w' => (∃ n : Nat, e = .returned (.int .i64 n) ∧ n ≤ N ∧ LvIs k n) ∧ w' = w := by
  intro N
  induction N with
  | zero => intro _ k ks A p w h; exact absurd h (by omega)
  | succ N ih =>
    intro hNN k ks A p w hN hB hwf hl5
    obtain ⟨hlt, hA, ka, kc, ia, ic, pl, us, c0, c1, c2, s0, sn, s1, hF⟩ := hB
    have HF : Hid (RdF w A k us) := hF
    have HW : Hid k.wf := hwf
    have HS : Hid (RdS w A ia k.len (us.map ptr)) := s1
    have IH : Hid (∀ (l : Fo) (ks' : List ByteArray) (q : Nat), l.sz < N → RdB w A q ks' l → l.wf → l.len ≤ 5 → Calls Try.prog 51 #[.pointer (some ⟨q, 0, none⟩)] w fun e w' => (∃ n : Nat, e = .returned (.int .i64 n) ∧ n ≤ N ∧ LvIs l n) ∧ w' = w) := fun l ks' q => ih (by omega) l ks' A q w
    have HN : Hid (k.sz < N + 1) := hN
    obtain ⟨K, hK⟩ : ∃ K, k.len = K := ⟨_, rfl⟩
    have HK : Hid (k.len = K) := hK
    rw [hK] at c1 hl5
    clear hF hwf s1 ih hN hK s0 sn c0 c2 hlt hA
    go_enter Try.func51, Try.ntmps51
    go_wp2
    go_loop [3, 12] (fun m i => ∃ (n : Nat) (f g : Fo) (mm : Nat), n ≤ K ∧ mm ≤ N ∧ i = .int .i64 n ∧ m = .int .i64 mm ∧ Hid (k = f.app g) ∧ Hid (f.len = n) ∧ Hid (LvF f mm)) (fun _ i => K - (intOf i).toNat)
    case atStart => exact ⟨0, .nil, k, 0, by omega, by omega, rfl, rfl, rfl, rfl, fun _ => rfl, fun h => absurd h (by simp [Fo.len])⟩
    case round =>
      obtain ⟨n, f, g, mm, hn, hmm, rfl, rfl, HE, HL, HV⟩ := hrel
      by_cases hlt : n < K
      · obtain ⟨ks', l, r, hg, hsz⟩ := Fo.split_at HE.out HL.out (by rw [HK.out]; exact hlt)
        have hE := HE.out
        rw [hg] at hE
        obtain ⟨q, hq, hBq⟩ := RdF.at (hE ▸ HF.out)
        obtain ⟨b, off, rfl, hbl, hAb, hc⟩ := HS.out.2 (by rw [HK.out]; omega)
        have d0 : w.cell? ⟨b, off + n, none⟩ = some (.pointer (some ⟨q, 0, none⟩)) := by rw [hc n (by rw [HK.out]; exact hlt)]; exact map_ptr (by rw [← HL.out]; exact hq)
        have hw2 : (Fo.node ks' l r).wf := ((Fo.wf_app f _).1 (hE ▸ HW.out)).2
        have C := IH.out l ks' q (by have := HN.out; omega) hBq hw2.2.2.2.1 (len_le4 hw2.2.1 hw2.2.2.1)
        have HE' : Hid (k = f.app (.node ks' l r)) := hE
        clear hc hq hBq hw2 hE hg hsz IH HW HF HS HE
        go_wp2_with fail
        refine C.mono ?_
        rintro e w' ⟨⟨z, rfl, hz, hlv⟩, hq⟩; have hq' := hq.symm; subst hq'; clear hq C
        have LV : Hid (LvIs l z) := hlv
        clear hlv d0
        by_cases h0 : z = 0
        · have h0' : ((z : Int) == 0) = true := by simp [h0]
          have HZ : Hid (z = 0) := h0
          clear h0
          go_wp2
          go_ret
          exact ⟨⟨0, rfl, by omega, lv_no HE'.out HV.out LV.out (.inl HZ.out)⟩, rfl⟩
        · have h0' : ((z : Int) == 0) = false := by simp [h0]
          have HZ : Hid (z ≠ 0) := h0
          clear h0
          by_cases h1 : 0 < n
          · by_cases h2 : z = mm
            · have h2' : ((z : Int) != (mm : Int)) = false := by simp [h2]
              have H2 : Hid (z = mm) := h2
              clear h2
              go_wp2
              go_round
              case rel => exact ⟨n + 1, f.app (.node ks' l .nil), r, z, by omega, by omega, by go_num, rfl, by unfold Hid; rw [← Fo.step_app]; exact HE'.out, by unfold Hid; rw [Fo.len_step, HL.out], HV.out.step LV.out HZ.out (fun _ => H2.out)⟩
              case measure => simp [intOf]; omega
            · have h2' : ((z : Int) != (mm : Int)) = true := by simp; omega
              have H2 : Hid (z ≠ mm) := h2
              clear h2
              go_wp2
              go_ret
              exact ⟨⟨0, rfl, by omega, lv_no HE'.out HV.out LV.out (.inr ⟨by rw [HL.out]; exact h1, H2.out⟩)⟩, rfl⟩
          · obtain rfl : n = 0 := by omega
            go_wp2
            go_round
            case rel => exact ⟨1, f.app (.node ks' l .nil), r, z, by omega, by omega, by go_num, rfl, by unfold Hid; rw [← Fo.step_app]; exact HE'.out, by unfold Hid; rw [Fo.len_step, HL.out], HV.out.step LV.out HZ.out (fun h => by rw [HL.out] at h; omega)⟩
            case measure => simp [intOf]; omega
      · have e : n = K := by omega
        subst e
        have EK : Hid (k = f) := Fo.split_end HE.out (by rw [HL.out, HK.out])
        go_wp2
        go_ret
        exact ⟨⟨mm + 1, by go_num, by omega, lv_yes (by rw [EK.out]; exact HV.out)⟩, rfl⟩

end Go.Proofs.Ythnggpjgajkaeaa
