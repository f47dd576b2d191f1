/-
  The law of FnRange.
-/
import Derived.Test.YthnggpjgajkaeaaRf
import Derived.Test.YthnggpjgajkaeaaQm
namespace Go.Proofs.Ythnggpjgajkaeaa
open Go Go.RowKit
attribute [local go_sem ↓] Go.wp_at_zero Go.wp_at_succ
set_option linter.unusedVariables false

theorem tr_low {w : World} {B g : Nat} {r : Int} {a : Option Addr} {n c : Nat} {K : List ByteArray} (h : TreeS w (fun k => B ≤ k) r a n c K) (hg : g < B) : TreeS w (fun k => k ≠ g) r a n c K := h.mono fun k _ hk => by omega
theorem tr_put {w : World} {B g q : Nat} {r : Int} {a : Option Addr} {n c : Nat} {K : List ByteArray} {x y : Value} (h : TreeS w (fun k => B ≤ k) r a n c K) (hq : q < B) (hg : g < B) : TreeS ((w.setCell ⟨q, 0, none⟩ x).setCell ⟨q, 1, none⟩ y) (fun k => k ≠ g) r a n c K := tr_low ((h.set (by omega)).set (by omega)) hg
theorem Fo.lv_keys : ∀ (f : Fo) (d : Nat), f.wf → f.lv d → f.len * 2 ^ (d - 1) ≤ f.all.length
  | .nil, _, _, _ => by simp [Fo.len, Fo.all]
  | .node ks k r, d, hw, hl => by
    rw [Fo.lv_node] at hl
    obtain ⟨h1, h2, h3, h4, h5⟩ := hw
    have ihr := Fo.lv_keys r d h5 hl.2
    have hT : 2 ^ (d - 1) ≤ (allT ks k).length := by
      rcases hl.1 with ⟨hn, rfl⟩ | ⟨hn, e, rfl, hv⟩
      · unfold allT; rw [if_pos hn]
        have : 0 < ks.length := List.length_pos_iff.2 h1
        simpa using Nat.succ_le_of_lt this
      · have ihk := Fo.lv_keys k e h4 hv
        have hne : ¬ k.len = 0 := fun h => by rw [(Fo.isNil_len k).2 h] at hn; cases hn
        have h2k : 2 ≤ k.len := by
          have : 0 < ks.length := List.length_pos_iff.2 h1
          rcases h3 with h3 | h3
          · exact absurd h3 hne
          · omega
        unfold allT; rw [hn, if_neg (by simp)]
        refine Nat.le_trans ?_ ihk
        refine Nat.le_trans ?_ (Nat.mul_le_mul_right _ h2k)
        cases e with
        | zero => simp
        | succ e => rw [Nat.add_sub_cancel, Nat.add_sub_cancel, Nat.pow_succ]; omega
    rw [Fo.len, Fo.all_node, List.length_append, Nat.add_mul, Nat.one_mul]
    omega
theorem TGood.deep {L : List ND} {ro : Int} {ks : List ByteArray} {f : Fo} {d : Nat} (g : TGood L ro ks f d) : 1 ≤ d ∧ (d = 1 ∨ 2 ^ (d - 1) ≤ (allT ks f).length) := by
  obtain ⟨m', hc, _⟩ := g.climb
  have hw := (C1_wf hc).1
  have hl := (C1_facts hc).2.2.1
  have ho := C1_ok hc
  unfold okN at ho
  rw [Bool.and_eq_true] at ho
  obtain ⟨_, q1, q2⟩ := isTN_facts ho.2
  rcases g.lev with ⟨_, rfl⟩ | ⟨hn, e, rfl, hv⟩
  · exact ⟨Nat.le_refl _, .inl rfl⟩
  · refine ⟨by omega, .inr ?_⟩
    have hne : ¬ f.len = 0 := fun h => by rw [(Fo.isNil_len f).2 h] at hn; cases hn
    have h2 : 2 ≤ f.len := by
      cases hb : (at' L ro).1 with
      | true => have := q1 hb; omega
      | false => have := q2 hb; omega
    have ih := Fo.lv_keys f e hw hv
    unfold allT; rw [hn, if_neg (by simp)]
    refine Nat.le_trans ?_ ih
    refine Nat.le_trans ?_ (Nat.mul_le_mul_right _ h2)
    cases e with
    | zero => simp
    | succ e => rw [Nat.add_sub_cancel, Nat.add_sub_cancel, Nat.pow_succ]; omega
theorem take_ins {K : List ByteArray} {p : Nat} {y : ByteArray} (h : Rise K) (hp : p < K.length) (hy : K.getD p zS = y) : y ∉ K.take p ∧ insK y (K.take p) = K.take (p + 1) := by
  have e : K.take (p + 1) = K.take p ++ [y] := by rw [List.take_succ_eq_append_getElem hp, ← getD_get hp, hy]
  have hR : Rise (K.take (p + 1)) := List.Pairwise.sublist (List.take_sublist _ _) h
  have hR' := hR
  rw [e] at hR'
  have hn : y ∉ K.take p := fun hm => lt'_irr _ ((List.pairwise_append.1 hR').2.2 y hm y (by simp))
  refine ⟨hn, rise_ext (insK_rise (List.Pairwise.sublist (List.take_sublist _ _) h) hn) hR fun x => ?_⟩
  rw [insK_mem, e, List.mem_append, List.mem_singleton]
  exact or_comm
theorem c_tIs (r : Int) (a : Option Addr) (n c : Nat) (K : List ByteArray) (key : ByteArray) (w : World) (h : TreeAt w r a n c K) (hk : kOK key = true) (h60 : K.length < 60) (hn : key ∉ K) :
    Calls Try.prog 21 #[.agg #[.int .i64 r, .slice a n c], .string key] w fun e w' => (∃ r' a' n' c', e = .returned (.tuple #[.agg #[.int .i64 r', .slice a' n' c'], .int .i64 0]) ∧ TreeS w' (fun k => w.heap.size ≤ k) r' a' n' c' (insK key K)) ∧ Below w.heap.size w w' := by
  obtain ⟨vs, hl, hr, h1, h2, h3, h4, h5, h6⟩ := h
  have hks := kOK_sz hk
  refine (c_specTI r a n c vs key w h1 h2 h3 h4 (by omega)).mono ?_
  rintro e w' ⟨⟨na, nc, us, bs, co, K', rfl, ho, hi, hs⟩, hb⟩
  obtain ⟨ks, f, d, g, he⟩ := h5.good h6
  rw [List.length_map, hl, ← hr] at g
  have h0 : AskC (vs.map saysN) r key 0 := .inr (.inr (.inr ⟨by omega, ⟨ks, f, d, g⟩, hk, rfl⟩))
  rcases hi with ⟨h', hne, _⟩ | ⟨_, ks', f', d', g', hi⟩
  · exact absurd (h0.uniq h') hne
  · have hK : allT ks' f' = K := by rw [← he]; first | exact g.keysUniq g' | exact (g.keysUniq g').symm
    rw [hK] at hi
    rcases hi with ⟨hin, rfl, _⟩ | ⟨_, hf, _⟩ | ⟨hin, _, rfl, rfl⟩
    · exact absurd ((inK_iff h6.rise).1 hin) hn
    · omega
    · exact ⟨⟨_, na, _, nc, rfl, TreeS.own ho hs (h6.ins hk hn h60)⟩, hb⟩
theorem rg_step {fr tt : ByteArray} {K : List ByteArray} {p : Nat} {y : ByteArray} (hp : p < K.length) (hy : K.getD p zS = y) : (rgB fr tt y = true → (rgL fr tt (K.take (p + 1))).length = (rgL fr tt (K.take p)).length + 1 ∧ (rgL fr tt (K.take p)).length < (rgL fr tt K).length ∧ (rgL fr tt K).getD (rgL fr tt (K.take p)).length zS = y) ∧ (rgB fr tt y = false → (rgL fr tt (K.take (p + 1))).length = (rgL fr tt (K.take p)).length) := by
  have e : K.take (p + 1) = K.take p ++ [y] := by rw [List.take_succ_eq_append_getElem hp, ← getD_get hp, hy]
  have eK : rgL fr tt K = rgL fr tt (K.take (p + 1)) ++ rgL fr tt (K.drop (p + 1)) := by rw [← rgL_app, List.take_append_drop]
  constructor
  · intro hb
    have e2 : rgL fr tt (K.take (p + 1)) = rgL fr tt (K.take p) ++ [y] := by rw [e, rgL_app]; unfold rgL; simp [hb]
    rw [eK, e2]
    refine ⟨by simp, by simp, ?_⟩
    rw [List.getD_eq_getElem?_getD, List.append_assoc, List.getElem?_append_right (Nat.le_refl _)]
    simp
  · intro hb
    rw [e, rgL_app]; unfold rgL; simp [hb]
theorem pow_le {d : Nat} {m : Nat} (h : 2 ^ (d - 1) ≤ m) (hm : m ≤ 47) (h1 : 1 ≤ d) : d ≤ 6 := by
  rcases Nat.lt_or_ge 6 d with h6 | h6
  · have : 2 ^ 6 ≤ 2 ^ (d - 1) := Nat.pow_le_pow_right (by omega) (by omega)
    omega
  · exact h6
theorem two_bytes {V : World} {g : Nat} {x y : Int} (h : Box V g 5 #[.int .u8 x, .int .u8 y]) : RdV V (some ⟨g, 0, none⟩) 2 ([x, y].map (Value.int .u8)) := ⟨rfl, fun _ => ⟨_, 0, rfl, h.lt, fun i hi => by
  rw [Nat.zero_add, h.cell i]
  have : i = 0 ∨ i = 1 := by omega
  rcases this with rfl | rfl <;> rfl⟩⟩
set_option maxRecDepth 100000 in
set_option maxHeartbeats 60000000 in
theorem law_FnRange (a : Option Addr) (n c : Nat) (zs : List Int) (b : Option Addr) (m d : Nat) (ys : List Int) (w : World) (hr : RdV w a n (zs.map (Value.int .u8))) (hz : ∀ z ∈ zs, 0 ≤ z ∧ z < 256) (hm : n ≤ maxLen) (hr' : RdV w b m (ys.map (Value.int .u8))) (hz' : ∀ z ∈ ys, 0 ≤ z ∧ z < 256) (hm' : m ≤ maxLen) :
    Calls Try.prog 4 #[.slice a n c, .slice b m d] w fun e w' => e = .returned (.bool true) ∧ Below w.heap.size w w' := by
  by_cases h1 : 1048576 < n
  · clear hr hr' hz hz'
    go_enter Try.func4, Try.ntmps4
    go_wp2
    go_ret
    exact ⟨rfl, Below.refl _ _⟩
  by_cases h2 : 1048576 < m
  · clear hr hr' hz hz'
    go_enter Try.func4, Try.ntmps4
    go_wp2
    go_ret
    exact ⟨rfl, Below.refl _ _⟩
  have D : ∀ (i : Nat), i ≤ 8 → ∀ W, Below w.heap.size w W → Calls Try.prog 14 #[.slice b m d, .int .i64 (i : Int), .int .i64 7] W fun e w' => (∃ r : Int, e = .returned (.int .i64 r) ∧ 0 ≤ r ∧ r < 7) ∧ Below W.heap.size W w' := fun i hi W hW => (c_at b m d i 7 ys W (hr'.below hW) hz' (by omega) hi (by omega)).mono fun e w' ⟨⟨r, h1, h2, h3⟩, h4⟩ => ⟨⟨r, h1, h2, h3 (by omega)⟩, h4⟩
  have D0 : Hid (∀ W, Below w.heap.size w W → Calls Try.prog 14 #[.slice b m d, .int .i64 0, .int .i64 7] W fun e w' => (∃ r : Int, e = .returned (.int .i64 r) ∧ 0 ≤ r ∧ r < 7) ∧ Below W.heap.size W w') := D 0 (by omega)
  have D1 : Hid (∀ W, Below w.heap.size w W → Calls Try.prog 14 #[.slice b m d, .int .i64 1, .int .i64 7] W fun e w' => (∃ r : Int, e = .returned (.int .i64 r) ∧ 0 ≤ r ∧ r < 7) ∧ Below W.heap.size W w') := D 1 (by omega)
  have D2 : Hid (∀ W, Below w.heap.size w W → Calls Try.prog 14 #[.slice b m d, .int .i64 2, .int .i64 7] W fun e w' => (∃ r : Int, e = .returned (.int .i64 r) ∧ 0 ≤ r ∧ r < 7) ∧ Below W.heap.size W w') := D 2 (by omega)
  have D3 : Hid (∀ W, Below w.heap.size w W → Calls Try.prog 14 #[.slice b m d, .int .i64 3, .int .i64 7] W fun e w' => (∃ r : Int, e = .returned (.int .i64 r) ∧ 0 ≤ r ∧ r < 7) ∧ Below W.heap.size W w') := D 3 (by omega)
  have CK := c_keysOf a n c zs w hr hz (by omega)
  clear hr hr' hz hz' D
  go_enter Try.func4, Try.ntmps4
  go_wp2_with fail
  refine CK.mono ?_
  rintro e w1 ⟨⟨ka, kc, K, rfl, rk, hri, h47, htk⟩, hb1⟩
  have HRI : Hid (Rise K) := hri
  have HTK : Hid (∀ s ∈ K, TK 6 s) := htk
  have HB1 : Hid (Below w.heap.size w w1) := hb1
  obtain ⟨kn, hkn⟩ : ∃ q, K.length = q := ⟨_, rfl⟩
  have HKN : Hid (K.length = kn) := hkn
  rw [hkn] at rk h47 ⊢
  have HRK : Hid (RdV w1 ka kn (K.map Value.string)) := rk
  clear CK rk hri htk hb1 hkn
  go_wp2_with fail
  refine (c_tN w1).mono ?_
  rintro e w2 ⟨⟨r0, a0, n0, c0, rfl, ht0⟩, hb2⟩
  obtain ⟨V, hV⟩ : ∃ V, w2.alloc (.cells #[.int .i64 r0, .slice a0 n0 c0] 27) = V := ⟨_, rfl⟩
  have bV : Below w2.heap.size w2 V := by rw [← hV]; exact (Below.refl _ _).alloc (Nat.le_refl _) _
  have BX : Hid (Box V w2.heap.size 27 #[.int .i64 r0, .slice a0 n0 c0]) := by unfold Hid; rw [← hV]; exact Box.new _ _ _
  have TS : Hid (TreeS V (fun k => k ≠ w2.heap.size) r0 a0 n0 c0 []) := (ht0.below bV).mono fun k _ h => by omega
  have BW : Hid (Below w1.heap.size w1 V) := hb2.trans (bV.mono hb2.size)
  have HG1 : Hid (w1.heap.size ≤ w2.heap.size) := hb2.size
  clear ht0 hb2 bV
  go_wp2_with fail
  clear hV
  obtain ⟨g, hg⟩ : ∃ g, w2.heap.size = g := ⟨_, rfl⟩
  rw [hg] at BX TS HG1 ⊢
  clear hg
  go_loopw [7] (fun i wr => ∃ (p : Nat) (r : Int) (a' : Option Addr) (n' c' : Nat), p ≤ kn ∧ i = .int .i64 p ∧ Hid (Box wr g 27 #[.int .i64 r, .slice a' n' c']) ∧ Hid (TreeS wr (fun k => k ≠ g) r a' n' c' (K.take p)) ∧ Hid (Below w1.heap.size w1 wr)) (fun i _ => kn - (intOf i).toNat)
  case atStart => exact ⟨0, r0, a0, n0, c0, Nat.zero_le _, rfl, BX, TS, BW⟩
  case round =>
    clear BX TS BW
    obtain ⟨p, r, a', n', c', hp, rfl, BX3, TS3, BW3⟩ := hrel
    obtain ⟨w3, hw3⟩ : ∃ x, x = wr := ⟨_, rfl⟩
    subst hw3
    by_cases hpn : p < kn
    · have u0 : IntKind.i64.wrap ((p : Int) + 1) = (p : Int) + 1 := by rw [IntKind.wrap_i64]; omega
      obtain ⟨kb, off, rfl, hbl, hc⟩ := HRK.out.2 (by omega)
      obtain ⟨y, hy⟩ : ∃ y, K.getD p zS = y := ⟨_, rfl⟩
      have HY : Hid (y ∈ K) := by unfold Hid; rw [← hy, getD_get (by rw [HKN.out]; exact hpn)]; exact List.getElem_mem _
      have HTI : Hid (y ∉ K.take p ∧ insK y (K.take p) = K.take (p + 1)) := take_ins HRI.out (by rw [HKN.out]; exact hpn) hy
      have x2 : w3.cell? ⟨kb, off + p, none⟩ = some (.string y) := farT BW3.out hbl (by rw [hc p hpn, ← hy]; exact map_get _ _ _ _ (by rw [HKN.out]; exact hpn))
      obtain ⟨x0, x1⟩ := box2T BX3.out
      have lg : g < w3.heap.size := BX3.out.lt
      have lk : kb < w3.heap.size := Nat.lt_of_lt_of_le hbl BW3.out.size
      have hkg : kb ≠ g := by have := HG1.out; omega
      have g1 : (0 : Int) ≤ (p : Int) := by omega
      have g2 : (p : Int) < (kn : Int) := by omega
      have h60 : (K.take p).length < 60 := by rw [List.length_take]; omega
      have CI : Hid (∀ W, Below w3.heap.size w3 W → Calls Try.prog 15 #[.agg #[.int .i64 r, .slice a' n' c'], .string y] W fun e w' => (∃ r' a2 n2 c2, e = .returned (.tuple #[.agg #[.int .i64 r', .slice a2 n2 c2], .int .i64 0]) ∧ TreeS w' (fun k => W.heap.size ≤ k) r' a2 n2 c2 (K.take (p + 1))) ∧ Below W.heap.size W w') := fun W hW => by
        refine (c_tI r a' n' c' (K.take p) y W (TS3.out.at.below hW) ((HTK.out y HY.out).kOK) h60).mono ?_
        rintro e w' ⟨⟨r', a2, n2, c2, co, rfl, h⟩, hb⟩
        rcases h with ⟨h, _⟩ | ⟨_, rfl, h⟩
        · exact absurd h HTI.out.1
        · rw [HTI.out.2] at h; exact ⟨⟨r', a2, n2, c2, rfl, h⟩, hb⟩
      have CS : Hid (∀ W, Below w3.heap.size w3 W → Calls Try.prog 21 #[.agg #[.int .i64 r, .slice a' n' c'], .string y] W fun e w' => (∃ r' a2 n2 c2, e = .returned (.tuple #[.agg #[.int .i64 r', .slice a2 n2 c2], .int .i64 0]) ∧ TreeS w' (fun k => W.heap.size ≤ k) r' a2 n2 c2 (K.take (p + 1))) ∧ Below W.heap.size W w') := fun W hW => by
        have := c_tIs r a' n' c' (K.take p) y W (TS3.out.at.below hW) ((HTK.out y HY.out).kOK) h60 HTI.out.1
        rw [HTI.out.2] at this
        exact this
      clear hc hy hbl h60
      go_wp2_with fail
      go_cut [8, 9] from 33 to 68 (fun s9 s10 wx => ∃ (r1 : Int) (a1 : Option Addr) (n1 c1 : Nat) (q : Nat), s9 = .pointer (some ⟨q, 0, none⟩) ∧ s10 = .int .i64 0 ∧ Hid (w3.heap.size ≤ q) ∧ Hid (Box wx q 27 #[.int .i64 r1, .slice a1 n1 c1]) ∧ Hid (Below w3.heap.size w3 wx) ∧ Hid (TreeS wx (fun k => k ≠ g) r1 a1 n1 c1 (K.take (p + 1))))
      case first =>
        clear BX3 TS3 BW3 CS
        go_region_held3 (fun y' => y'.cell? ⟨g, 0, none⟩ = some (.int .i64 r) ∧ y'.cell? ⟨g, 1, none⟩ = some (.slice a' n' c') ∧ y'.cell? ⟨kb, off + p, none⟩ = some (.string y))
          (first | exact KB.out | exact KP.out | go_keep)
          (first | (go_at_call 15
                    refine (CI.out _ (by first | exact Below.refl _ _ | exact (Below.refl _ _).drew | exact (Below.refl _ _).alloc (Nat.le_refl _) _ | exact ((Below.refl _ _).alloc (Nat.le_refl _) _).drew)).mono ?_
                    rintro e wB ⟨⟨r1, a1, n1, c1, rfl, hA⟩, hbB⟩
                    have HbB : Hid (Below w3.heap.size w3 wB) := Below.trans (by first | exact Below.refl _ _ | exact (Below.refl _ _).drew | exact (Below.refl _ _).alloc (Nat.le_refl _) _ | exact ((Below.refl _ _).alloc (Nat.le_refl _) _).drew) (hbB.mono (by first | exact Nat.le_refl _ | simp))
                    have sB : w3.heap.size ≤ wB.heap.size := HbB.out.size
                    have kb0 := farT HbB.out lg x0
                    have kb1 := farT HbB.out lg x1
                    have kb2 := farT HbB.out lk x2
                    have KB : Hid (wB.cell? ⟨g, 0, none⟩ = some (.int .i64 r) ∧ wB.cell? ⟨g, 1, none⟩ = some (.slice a' n' c') ∧ wB.cell? ⟨kb, off + p, none⟩ = some (.string y)) := ⟨kb0, kb1, kb2⟩
                    have HN : Hid (TreeS wB (fun k => k ≠ g) r1 a1 n1 c1 (K.take (p + 1))) := tr_low hA (Nat.lt_of_lt_of_le lg (by first | exact Nat.le_refl _ | simp))
                    first
                      | (have ZB := zbT_of hbB
                         have KP : Hid (((wB.setCell ⟨w3.heap.size, 0, none⟩ (.int .i64 r1)).setCell ⟨w3.heap.size, 1, none⟩ (.slice a1 n1 c1)).cell? ⟨g, 0, none⟩ = some (.int .i64 r) ∧ ((wB.setCell ⟨w3.heap.size, 0, none⟩ (.int .i64 r1)).setCell ⟨w3.heap.size, 1, none⟩ (.slice a1 n1 c1)).cell? ⟨g, 1, none⟩ = some (.slice a' n' c') ∧ ((wB.setCell ⟨w3.heap.size, 0, none⟩ (.int .i64 r1)).setCell ⟨w3.heap.size, 1, none⟩ (.slice a1 n1 c1)).cell? ⟨kb, off + p, none⟩ = some (.string y)) := ⟨(put2_far _ _ _ _ _ _ (by omega)).trans kb0, (put2_far _ _ _ _ _ _ (by omega)).trans kb1, (put2_far _ _ _ _ _ _ (by omega)).trans kb2⟩
                         have HP : Hid (TreeS ((wB.setCell ⟨w3.heap.size, 0, none⟩ (.int .i64 r1)).setCell ⟨w3.heap.size, 1, none⟩ (.slice a1 n1 c1)) (fun k => k ≠ g) r1 a1 n1 c1 (K.take (p + 1))) := tr_put hA (by simp) (by simp; omega)
                         have lB := ZB.lt
                         obtain ⟨z0, z1⟩ := box2T ZB
                         obtain ⟨t0, t1⟩ := thaw2T ZB)
                      | (have ZB := zbT_ofd hbB
                         have KP : Hid (((wB.setCell ⟨w3.heap.size, 0, none⟩ (.int .i64 r1)).setCell ⟨w3.heap.size, 1, none⟩ (.slice a1 n1 c1)).cell? ⟨g, 0, none⟩ = some (.int .i64 r) ∧ ((wB.setCell ⟨w3.heap.size, 0, none⟩ (.int .i64 r1)).setCell ⟨w3.heap.size, 1, none⟩ (.slice a1 n1 c1)).cell? ⟨g, 1, none⟩ = some (.slice a' n' c') ∧ ((wB.setCell ⟨w3.heap.size, 0, none⟩ (.int .i64 r1)).setCell ⟨w3.heap.size, 1, none⟩ (.slice a1 n1 c1)).cell? ⟨kb, off + p, none⟩ = some (.string y)) := ⟨(put2_far _ _ _ _ _ _ (by omega)).trans kb0, (put2_far _ _ _ _ _ _ (by omega)).trans kb1, (put2_far _ _ _ _ _ _ (by omega)).trans kb2⟩
                         have HP : Hid (TreeS ((wB.setCell ⟨w3.heap.size, 0, none⟩ (.int .i64 r1)).setCell ⟨w3.heap.size, 1, none⟩ (.slice a1 n1 c1)) (fun k => k ≠ g) r1 a1 n1 c1 (K.take (p + 1))) := tr_put hA (by simp) (by simp; omega)
                         have lB := ZB.lt
                         obtain ⟨z0, z1⟩ := box2T ZB
                         obtain ⟨t0, t1⟩ := thaw2T ZB)
                      | skip
                    clear hA hbB))
        all_goals (go_wp2_with fail; go_meet)
        all_goals first
          | exact ⟨r1, a1, n1, c1, wB.heap.size, rfl, rfl, sB, Box.new _ _ _, HbB.out.alloc sB _, HN.out.below ((Below.refl _ _).alloc (Nat.le_refl _) _)⟩
          | exact ⟨r1, a1, n1, c1, w3.heap.size, rfl, rfl, Nat.le_refl _, put2_box ZB _ _, put2_below HbB.out (Nat.le_refl _) _ _, HP.out⟩
      case rest =>
        obtain ⟨r2, a2, n2, c2, q2, rfl, rfl, HQ2, BQ2, BC2, HA2⟩ := hcut
        obtain ⟨w4, hw4⟩ : ∃ x, x = wc := ⟨_, rfl⟩
        subst hw4
        have BX4 : Hid (Box w4 g 27 #[.int .i64 r, .slice a' n' c']) := BX3.out.belowS BC2.out
        have BW4 : Hid (Below w1.heap.size w1 w4) := BW3.out.trans (BC2.out.mono BW3.out.size)
        have C2 : Hid (∀ W, Below w4.heap.size w4 W → Calls Try.prog 21 #[.agg #[.int .i64 r, .slice a' n' c'], .string y] W fun e w' => (∃ r' a2 n2 c2, e = .returned (.tuple #[.agg #[.int .i64 r', .slice a2 n2 c2], .int .i64 0]) ∧ TreeS w' (fun k => W.heap.size ≤ k) r' a2 n2 c2 (K.take (p + 1))) ∧ Below W.heap.size W w') := fun W hW => CS.out W (BC2.out.trans (hW.mono BC2.out.size))
        have x2' := farT BC2.out lk x2
        have lk' : kb < w4.heap.size := Nat.lt_of_lt_of_le lk BC2.out.size
        clear x0 x1 x2 lg lk CI CS BX3 TS3 BW3 HQ2
        have x2 := x2'
        have lk := lk'
        obtain ⟨x0, x1⟩ := box2T BX4.out
        have lg : g < w4.heap.size := BX4.out.lt
        clear x2' lk'
        go_wp2_with fail
        go_cut [10, 11] from 33 to 68 (fun s9 s10 wx => ∃ (r1 : Int) (a1 : Option Addr) (n1 c1 : Nat) (q : Nat), s9 = .pointer (some ⟨q, 0, none⟩) ∧ s10 = .int .i64 0 ∧ Hid (w4.heap.size ≤ q) ∧ Hid (Box wx q 27 #[.int .i64 r1, .slice a1 n1 c1]) ∧ Hid (Below w4.heap.size w4 wx) ∧ Hid (TreeS wx (fun k => k ≠ g) r1 a1 n1 c1 (K.take (p + 1))))
        case first =>
          clear BX4 BW4 HA2 BQ2 BC2
          go_region_held3 (fun y' => y'.cell? ⟨g, 0, none⟩ = some (.int .i64 r) ∧ y'.cell? ⟨g, 1, none⟩ = some (.slice a' n' c') ∧ y'.cell? ⟨kb, off + p, none⟩ = some (.string y))
            (first | exact KB.out | exact KP.out | go_keep)
            (first | (go_at_call 21
                      refine (C2.out _ (by first | exact Below.refl _ _ | exact (Below.refl _ _).drew | exact (Below.refl _ _).alloc (Nat.le_refl _) _ | exact ((Below.refl _ _).alloc (Nat.le_refl _) _).drew)).mono ?_
                      rintro e wB ⟨⟨r1, a1, n1, c1, rfl, hA⟩, hbB⟩
                      have HbB : Hid (Below w4.heap.size w4 wB) := Below.trans (by first | exact Below.refl _ _ | exact (Below.refl _ _).drew | exact (Below.refl _ _).alloc (Nat.le_refl _) _ | exact ((Below.refl _ _).alloc (Nat.le_refl _) _).drew) (hbB.mono (by first | exact Nat.le_refl _ | simp))
                      have sB : w4.heap.size ≤ wB.heap.size := HbB.out.size
                      have kb0 := farT HbB.out lg x0
                      have kb1 := farT HbB.out lg x1
                      have kb2 := farT HbB.out lk x2
                      have KB : Hid (wB.cell? ⟨g, 0, none⟩ = some (.int .i64 r) ∧ wB.cell? ⟨g, 1, none⟩ = some (.slice a' n' c') ∧ wB.cell? ⟨kb, off + p, none⟩ = some (.string y)) := ⟨kb0, kb1, kb2⟩
                      have HN : Hid (TreeS wB (fun k => k ≠ g) r1 a1 n1 c1 (K.take (p + 1))) := tr_low hA (Nat.lt_of_lt_of_le lg (by first | exact Nat.le_refl _ | simp))
                      first
                        | (have ZB := zbT_of hbB
                           have KP : Hid (((wB.setCell ⟨w4.heap.size, 0, none⟩ (.int .i64 r1)).setCell ⟨w4.heap.size, 1, none⟩ (.slice a1 n1 c1)).cell? ⟨g, 0, none⟩ = some (.int .i64 r) ∧ ((wB.setCell ⟨w4.heap.size, 0, none⟩ (.int .i64 r1)).setCell ⟨w4.heap.size, 1, none⟩ (.slice a1 n1 c1)).cell? ⟨g, 1, none⟩ = some (.slice a' n' c') ∧ ((wB.setCell ⟨w4.heap.size, 0, none⟩ (.int .i64 r1)).setCell ⟨w4.heap.size, 1, none⟩ (.slice a1 n1 c1)).cell? ⟨kb, off + p, none⟩ = some (.string y)) := ⟨(put2_far _ _ _ _ _ _ (by omega)).trans kb0, (put2_far _ _ _ _ _ _ (by omega)).trans kb1, (put2_far _ _ _ _ _ _ (by omega)).trans kb2⟩
                           have HP : Hid (TreeS ((wB.setCell ⟨w4.heap.size, 0, none⟩ (.int .i64 r1)).setCell ⟨w4.heap.size, 1, none⟩ (.slice a1 n1 c1)) (fun k => k ≠ g) r1 a1 n1 c1 (K.take (p + 1))) := tr_put hA (by simp) (by simp; omega)
                           have lB := ZB.lt
                           obtain ⟨z0, z1⟩ := box2T ZB
                           obtain ⟨t0, t1⟩ := thaw2T ZB)
                        | (have ZB := zbT_ofd hbB
                           have KP : Hid (((wB.setCell ⟨w4.heap.size, 0, none⟩ (.int .i64 r1)).setCell ⟨w4.heap.size, 1, none⟩ (.slice a1 n1 c1)).cell? ⟨g, 0, none⟩ = some (.int .i64 r) ∧ ((wB.setCell ⟨w4.heap.size, 0, none⟩ (.int .i64 r1)).setCell ⟨w4.heap.size, 1, none⟩ (.slice a1 n1 c1)).cell? ⟨g, 1, none⟩ = some (.slice a' n' c') ∧ ((wB.setCell ⟨w4.heap.size, 0, none⟩ (.int .i64 r1)).setCell ⟨w4.heap.size, 1, none⟩ (.slice a1 n1 c1)).cell? ⟨kb, off + p, none⟩ = some (.string y)) := ⟨(put2_far _ _ _ _ _ _ (by omega)).trans kb0, (put2_far _ _ _ _ _ _ (by omega)).trans kb1, (put2_far _ _ _ _ _ _ (by omega)).trans kb2⟩
                           have HP : Hid (TreeS ((wB.setCell ⟨w4.heap.size, 0, none⟩ (.int .i64 r1)).setCell ⟨w4.heap.size, 1, none⟩ (.slice a1 n1 c1)) (fun k => k ≠ g) r1 a1 n1 c1 (K.take (p + 1))) := tr_put hA (by simp) (by simp; omega)
                           have lB := ZB.lt
                           obtain ⟨z0, z1⟩ := box2T ZB
                           obtain ⟨t0, t1⟩ := thaw2T ZB)
                        | skip
                      clear hA hbB))
          all_goals (go_wp2_with fail; go_meet)
          all_goals first
            | exact ⟨r1, a1, n1, c1, wB.heap.size, rfl, rfl, sB, Box.new _ _ _, HbB.out.alloc sB _, HN.out.below ((Below.refl _ _).alloc (Nat.le_refl _) _)⟩
            | exact ⟨r1, a1, n1, c1, w4.heap.size, rfl, rfl, Nat.le_refl _, put2_box ZB _ _, put2_below HbB.out (Nat.le_refl _) _ _, HP.out⟩
        case rest =>
          obtain ⟨r3, a3, n3, c3, q3, rfl, rfl, HQ3, BQ3, BC3, HA3⟩ := hcut
          obtain rfl : n3 = n2 := HA2.out.at.len HA3.out.at
          have BXc : Hid (Box wc g 27 #[.int .i64 r, .slice a' n' c']) := BX4.out.belowS BC3.out
          have BWc : Hid (Below w1.heap.size w1 wc) := BW4.out.trans (BC3.out.mono BW4.out.size)
          have TSn : Hid (TreeS wc (fun k => k ≠ g) r2 a2 n3 c2 (K.take (p + 1))) := HA2.out.below BC3.out
          obtain ⟨z0, z1⟩ := box2T (BQ2.out.belowS BC3.out)
          obtain ⟨y0, y1⟩ := box2T BQ3.out
          obtain ⟨t0, t1⟩ := thaw2T BXc.out
          obtain ⟨s0, s1⟩ := box2T BXc.out
          clear x0 x1 x2 C2 BX4 BW4 HA2 HA3 BQ2 BQ3 HQ3 BC3
          go_wp2
          go_roundw
          case rel => exact ⟨p + 1, r2, a2, n3, c2, by omega, by go_num, put2_box BXc.out _ _, (TSn.out.set (by simp)).set (by simp), put2_below BWc.out HG1.out _ _⟩
          case measure => simp [intOf]; omega
    · obtain rfl : p = kn := by omega
      have TK3 : Hid (TreeS w3 (fun k => k ≠ g) r a' n' c' K) := by have := TS3.out; rw [List.take_of_length_le (by rw [HKN.out]; omega)] at this; exact this
      clear TS3
      have up : ∀ {W : World}, Below w1.heap.size w1 W → Below w.heap.size w W := fun h => HB1.out.trans (h.mono HB1.out.size)
      have UP : Hid (∀ {W : World}, Below w1.heap.size w1 W → Below w.heap.size w W) := up
      clear up
      go_wp2_with fail
      refine (D0.out w3 (UP.out BW3.out)).mono ?_
      rintro e w4 ⟨⟨x, rfl, q0, q1⟩, hb4⟩
      have BX4 : Hid (Box w4 g 27 #[.int .i64 r, .slice a' n' c']) := BX3.out.belowS hb4
      have TK4 : Hid (TreeS w4 (fun k => k ≠ g) r a' n' c' K) := TK3.out.below hb4
      have BW4 : Hid (Below w1.heap.size w1 w4) := BW3.out.trans (hb4.mono BW3.out.size)
      have u1 : IntKind.i64.wrap (97 + x) = 97 + x := by rw [IntKind.wrap_i64]; omega
      have u2 : IntKind.u8.wrap (97 + x) = 97 + x := by rw [IntKind.wrap_u8']; omega
      clear hb4 BX3 TK3 BW3
      go_wp2_with fail
      refine (D1.out w4 (UP.out BW4.out)).mono ?_
      rintro e w5 ⟨⟨x', rfl, q2, q3⟩, hb5⟩
      have u3 : IntKind.i64.wrap (97 + x') = 97 + x' := by rw [IntKind.wrap_i64]; omega
      have u4 : IntKind.u8.wrap (97 + x') = 97 + x' := by rw [IntKind.wrap_u8']; omega
      obtain ⟨V, hV⟩ : ∃ V, w5.alloc (.cells #[.int .u8 (97 + x), .int .u8 (97 + x')] 5) = V := ⟨_, rfl⟩
      have bV : Below w5.heap.size w5 V := by rw [← hV]; exact (Below.refl _ _).alloc (Nat.le_refl _) _
      have XV : Box V w5.heap.size 5 #[.int .u8 (97 + x), .int .u8 (97 + x')] := by rw [← hV]; exact Box.new _ _ _
      have RV : RdV V (some ⟨w5.heap.size, 0, none⟩) 2 ([97 + x, 97 + x'].map (Value.int .u8)) := two_bytes XV
      have cv := conv8T (cap := 2) RV (by omega)
      obtain ⟨fr, hfr⟩ : ∃ s, strOfNums [97 + x, 97 + x'] = s := ⟨_, rfl⟩
      have HFR : Hid (fr.size ≤ 65536) := by unfold Hid; rw [← hfr]; show 2 ≤ 65536; omega
      rw [hfr] at cv
      have hb45 : Below w4.heap.size w4 V := hb5.trans (bV.mono hb5.size)
      have BX5 : Hid (Box V g 27 #[.int .i64 r, .slice a' n' c']) := BX4.out.belowS hb45
      have TK5 : Hid (TreeS V (fun k => k ≠ g) r a' n' c' K) := TK4.out.below hb45
      have BW5 : Hid (Below w1.heap.size w1 V) := BW4.out.trans (hb45.mono BW4.out.size)
      clear hb45 hb5 bV XV RV hfr BX4 TK4 BW4
      go_wp2_with fail
      clear hV cv u1 u2 u3 u4
      refine (D2.out V (UP.out BW5.out)).mono ?_
      rintro e w6 ⟨⟨z, rfl, q4, q5⟩, hb6⟩
      have BX6 : Hid (Box w6 g 27 #[.int .i64 r, .slice a' n' c']) := BX5.out.belowS hb6
      have TK6 : Hid (TreeS w6 (fun k => k ≠ g) r a' n' c' K) := TK5.out.below hb6
      have BW6 : Hid (Below w1.heap.size w1 w6) := BW5.out.trans (hb6.mono BW5.out.size)
      have u1 : IntKind.i64.wrap (97 + z) = 97 + z := by rw [IntKind.wrap_i64]; omega
      have u2 : IntKind.u8.wrap (97 + z) = 97 + z := by rw [IntKind.wrap_u8']; omega
      clear hb6 BX5 TK5 BW5
      go_wp2_with fail
      refine (D3.out w6 (UP.out BW6.out)).mono ?_
      rintro e w7 ⟨⟨z', rfl, q6, q7⟩, hb7⟩
      have u3 : IntKind.i64.wrap (97 + z') = 97 + z' := by rw [IntKind.wrap_i64]; omega
      have u4 : IntKind.u8.wrap (97 + z') = 97 + z' := by rw [IntKind.wrap_u8']; omega
      obtain ⟨U, hU⟩ : ∃ V, w7.alloc (.cells #[.int .u8 (97 + z), .int .u8 (97 + z')] 5) = V := ⟨_, rfl⟩
      have bV : Below w7.heap.size w7 U := by rw [← hU]; exact (Below.refl _ _).alloc (Nat.le_refl _) _
      have XV : Box U w7.heap.size 5 #[.int .u8 (97 + z), .int .u8 (97 + z')] := by rw [← hU]; exact Box.new _ _ _
      have RV : RdV U (some ⟨w7.heap.size, 0, none⟩) 2 ([97 + z, 97 + z'].map (Value.int .u8)) := two_bytes XV
      have cv := conv8T (cap := 2) RV (by omega)
      obtain ⟨tt, hto⟩ : ∃ s, strOfNums [97 + z, 97 + z'] = s := ⟨_, rfl⟩
      have HTO : Hid (tt.size ≤ 65536) := by unfold Hid; rw [← hto]; show 2 ≤ 65536; omega
      rw [hto] at cv
      have hb67 : Below w6.heap.size w6 U := hb7.trans (bV.mono hb7.size)
      have BX7 : Hid (Box U g 27 #[.int .i64 r, .slice a' n' c']) := BX6.out.belowS hb67
      have TK7 : Hid (TreeS U (fun k => k ≠ g) r a' n' c' K) := TK6.out.below hb67
      have BW7 : Hid (Below w1.heap.size w1 U) := BW6.out.trans (hb67.mono BW6.out.size)
      have CR := c_tR r a' n' c' K fr tt U TK7.out.at HFR.out HTO.out
      obtain ⟨R, hR⟩ : ∃ R, rgL fr tt K = R := ⟨_, rfl⟩
      have HR : Hid (rgL fr tt K = R) := hR
      rw [hR] at CR
      obtain ⟨rn, hrn⟩ : ∃ q, R.length = q := ⟨_, rfl⟩
      have HRN : Hid (R.length = rn) := hrn
      rw [hrn] at CR
      obtain ⟨x0, x1⟩ := box2T BX7.out
      clear hb67 hb7 bV XV RV hto hR hrn BX6 TK6 BW6
      go_wp2_with fail
      clear hU cv u1 u2 u3 u4
      refine CR.mono ?_
      rintro e w8 ⟨⟨la, lc, rfl, rl⟩, hb8⟩
      have BX8 : Hid (Box w8 g 27 #[.int .i64 r, .slice a' n' c']) := BX7.out.belowS hb8
      have TK8 : Hid (TreeAt w8 r a' n' c' K) := TK7.out.at.below hb8
      have BW8 : Hid (Below w1.heap.size w1 w8) := BW7.out.trans (hb8.mono BW7.out.size)
      have HRL : Hid (RdV w8 la rn (R.map Value.string)) := rl
      have hrn47 : rn ≤ 47 := by
        have h1 := List.length_filter_le (rgB fr tt) K
        have h2 : (K.filter (rgB fr tt)).length = rn := by rw [← HRN.out, ← HR.out]; rfl
        have h3 := HKN.out
        omega
      clear hb8 BX7 TK7 BW7 rl CR x0 x1
      go_wp2_with fail
      go_loopw [16, 17] (fun nn i wr => ∃ (j q : Nat), j ≤ p ∧ q ≤ 47 ∧ nn = .int .i64 q ∧ i = .int .i64 j ∧ Hid (q = (rgL fr tt (K.take j)).length) ∧ Hid (Below w8.heap.size w8 wr)) (fun _ i _ => p - (intOf i).toNat)
      case atStart => exact ⟨0, 0, Nat.zero_le _, by omega, rfl, rfl, rfl, Below.refl _ _⟩
      case round =>
        obtain ⟨j, q, hj, hq47, rfl, rfl, HQ, hbr⟩ := hrel
        have BR : Hid (Below w8.heap.size w8 wr) := hbr
        clear hbr
        by_cases hjn : j < p
        · have u0 : IntKind.i64.wrap ((j : Int) + 1) = (j : Int) + 1 := by rw [IntKind.wrap_i64]; omega
          have u9 : IntKind.i64.wrap ((q : Int) + 1) = (q : Int) + 1 := by rw [IntKind.wrap_i64]; omega
          obtain ⟨kb, off, rfl, hbl, hc⟩ := HRK.out.2 (by omega)
          obtain ⟨y, hy⟩ : ∃ y, K.getD j zS = y := ⟨_, rfl⟩
          have HST := rg_step (fr := fr) (tt := tt) (K := K) (p := j) (by rw [HKN.out]; exact hjn) hy
          have x2 : wr.cell? ⟨kb, off + j, none⟩ = some (.string y) := farT BR.out (Nat.lt_of_lt_of_le hbl BW8.out.size) (farT BW8.out hbl (by rw [hc j hjn, ← hy]; exact map_get _ _ _ _ (by rw [HKN.out]; exact hjn)))
          have g1 : (0 : Int) ≤ (j : Int) := by omega
          have g2 : (j : Int) < (p : Int) := by omega
          clear hc hy hbl
          cases e1 : Op.bytesLess y.toList fr.toList
          · cases e2 : Op.bytesLess y.toList tt.toList
            · have HN : Hid (q = (rgL fr tt (K.take (j + 1))).length) := by unfold Hid; rw [HST.2 (by unfold rgB; rw [e1, e2]; rfl)]; exact HQ.out
              clear HST
              go_wp2
              go_roundw
              case rel => exact ⟨j + 1, q, by omega, hq47, rfl, by go_num, HN, BR⟩
              case measure => simp [intOf]; omega
            · obtain ⟨s1, s2, s3⟩ := HST.1 (by unfold rgB; rw [e1, e2]; rfl)
              have hq := HQ.out
              rw [← hq] at s1 s2 s3
              rw [HR.out] at s2 s3
              rw [HRN.out] at s2
              have HN : Hid (q + 1 = (rgL fr tt (K.take (j + 1))).length) := s1.symm
              obtain ⟨lb, lo, rfl, hll, hlc⟩ := HRL.out.2 (by omega)
              have x3 : wr.cell? ⟨lb, lo + q, none⟩ = some (.string y) := farT BR.out hll (by rw [hlc q s2, ← s3]; exact map_get _ _ _ _ (by rw [HRN.out]; exact s2))
              have hd : decide ((rn : Int) ≤ (q : Int)) = false := by rw [decide_eq_false_iff_not]; omega
              have hd3 : decide (rn ≤ q) = false := by rw [decide_eq_false_iff_not]; omega
              have hd5 : decide ((q : Int) < (rn : Int)) = true := by rw [decide_eq_true_eq]; omega
              have hd6 : decide (q < rn) = true := by rw [decide_eq_true_eq]; omega
              have hd7 : decide ((q : Int) ≥ (rn : Int)) = false := by rw [decide_eq_false_iff_not]; omega
              have g3 : (0 : Int) ≤ (q : Int) := by omega
              have g4 : (q : Int) < (rn : Int) := by omega
              have qq : (y.toList == y.toList) = true := by simp
              have c4 : ∀ o : Out wr, o.y.cell? ⟨kb, off + j, none⟩ = some (.string y) := fun o => q_cell x2 o
              have c5 : ∀ o : Out wr, o.y.cell? ⟨lb, lo + q, none⟩ = some (.string y) := fun o => q_cell x3 o
              clear HST hq s1 s2 s3 hlc hll x3
              go_wp2_with fail
              clear x2
              haveI nonE := Out.some wr
              refine q_begin (by kernel_rfl) (by kernel_rfl) ?_
              repeat (go_big_quiet_step (fail))
              refine wpQuiet_nil ?_
              rintro wq ⟨⟨y', hb3⟩, hy⟩
              have hy' : wq = y' := hy
              clear hy
              subst hy'
              have BQ : Hid (Below w8.heap.size w8 wq) := BR.out.trans (hb3.mono BR.out.size)
              clear hb3 c4 c5
              go_wp2
              go_roundw
              case rel => exact ⟨j + 1, q + 1, by omega, by omega, by go_num, by go_num, HN, BQ⟩
              case measure => simp [intOf]; omega
          · have HN : Hid (q = (rgL fr tt (K.take (j + 1))).length) := by unfold Hid; rw [HST.2 (by unfold rgB; rw [e1]; rfl)]; exact HQ.out
            clear HST
            go_wp2
            go_roundw
            case rel => exact ⟨j + 1, q, by omega, hq47, rfl, by go_num, HN, BR⟩
            case measure => simp [intOf]; omega
        · obtain rfl : j = p := by omega
          obtain rfl : q = rn := by have := HQ.out; rw [List.take_of_length_le (by rw [HKN.out]; omega), HR.out, HRN.out] at this; exact this
          have CD := c_tDp r a' n' c' K wr (TK8.out.below BR.out)
          obtain ⟨x0, x1⟩ := box2T (BX8.out.belowS BR.out)
          go_wp2_with fail
          refine CD.mono ?_
          rintro e w9 ⟨⟨d9, L9, ks, f, rfl, hg9, hall⟩, hb9⟩
          obtain ⟨d1, d2⟩ := hg9.deep
          rw [hall, HKN.out] at d2
          have B9 : Hid (Below w.heap.size w w9) := UP.out ((BW8.out.trans (BR.out.mono BW8.out.size)).trans (hb9.mono (Nat.le_trans BW8.out.size BR.out.size)))
          have d6 : d9 ≤ 6 := by
            rcases d2 with rfl | d2
            · omega
            · exact pow_le d2 (by omega) d1
          clear CD x0 x1 hg9 hall hb9
          go_wp2_with fail
          go_loopw [20, 21] (fun room i wr => ∃ (t s : Nat), 1 ≤ t ∧ t ≤ d9 ∧ s ≤ 64 ∧ room = .int .i64 s ∧ i = .int .i64 t ∧ Hid (s = 2 ^ (t - 1)) ∧ Hid (Below w.heap.size w wr)) (fun _ i _ => d9 - (intOf i).toNat)
          case atStart => exact ⟨1, 1, Nat.le_refl _, d1, by omega, rfl, rfl, rfl, B9⟩
          case round =>
            obtain ⟨t, s, ht1, htd, hs64, rfl, rfl, HS, BZ⟩ := hrel
            by_cases htn : t < d9
            · have u0 : IntKind.i64.wrap ((t : Int) + 1) = (t : Int) + 1 := by rw [IntKind.wrap_i64]; omega
              have u9 : IntKind.i64.wrap ((s : Int) * 2) = (s : Int) * 2 := by rw [IntKind.wrap_i64]; omega
              have g1 : (t : Int) < (d9 : Int) := by omega
              have g2 : (t : Int) < 20 := by omega
              have HS' : Hid (s * 2 = 2 ^ (t + 1 - 1)) := by
                unfold Hid; rw [HS.out, Nat.add_sub_cancel, ← Nat.pow_succ]; congr 1; omega
              have h64 : s * 2 ≤ 64 := by
                rw [HS'.out, Nat.add_sub_cancel]
                exact Nat.le_trans (Nat.pow_le_pow_right (by omega) (show t ≤ 6 by omega)) (by decide)
              go_wp2
              go_roundw
              case rel => exact ⟨t + 1, s * 2, by omega, by omega, h64, by go_num, by go_num, HS', BZ⟩
              case measure => simp [intOf]; omega
            · obtain rfl : t = d9 := by omega
              have g1 : ¬ (t : Int) < (t : Int) := by omega
              have g3 : (1 : Int) ≤ (t : Int) := by omega
              have hs := HS.out
              by_cases ht : t = 1
              · subst ht
                go_wp2
                go_ret
                exact ⟨rfl, BZ.out⟩
              · have hsj : s ≤ j := by
                  rcases d2 with d2 | d2
                  · exact absurd d2 ht
                  · omega
                have g4 : ((t : Int) == 1) = false := by simp; omega
                have g5 : (s : Int) ≤ (j : Int) := by omega
                clear d2 hs
                go_wp2
                go_ret
                exact ⟨rfl, BZ.out⟩


end Go.Proofs.Ythnggpjgajkaeaa
