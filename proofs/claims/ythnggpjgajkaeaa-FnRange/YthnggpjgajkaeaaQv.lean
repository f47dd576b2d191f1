/-
  The tree of keys is a right tree.
-/
import Derived.Test.YthnggpjgajkaeaaZQa
import Derived.Test.YthnggpjgajkaeaaMa

namespace Go.Proofs.Ythnggpjgajkaeaa
open Go Go.RowKit

/-- The nodes at js are the trees of a forest; S are all their places. -/
inductive RepF (L : List ND) : List Nat → Fo → List Nat → Prop
  | nil : RepF L [] .nil []
  | cons {j : Nat} {lf : Bool} {ks : List ByteArray} {us rest : List Nat} {f g : Fo} {S1 S2 : List Nat} (h : L[j]? = some (lf, ks, us.map fun (u : Nat) => (u : Int))) (ht : isTN (lf, ks, us.map fun (u : Nat) => (u : Int)) = true) (hk : ks ≠ []) (k : RepF L us f S1) (r : RepF L rest g S2) : RepF L (j :: rest) (.node ks f g) (j :: (S1 ++ S2))
theorem getD_setB (m : List Bool) (j i : Nat) (hj : j < m.length) : (m.set j true).getD i true = (m.getD i true || decide (i = j)) := by
  rw [List.getD_eq_getElem?_getD, List.getElem?_set, List.getD_eq_getElem?_getD]
  by_cases e : j = i
  · subst e; rw [if_pos rfl, if_pos hj]; simp
  · rw [if_neg e]; simp [Ne.symm e]
theorem at_cast {L : List ND} {j : Nat} {v : ND} (h : L[j]? = some v) : at' L (j : Int) = v := by
  unfold at'
  rw [Int.toNat_natCast, List.getD_eq_getElem?_getD, h]; rfl
theorem C1_rep {L : List ND} {j : Nat} {lf : Bool} {ks : List ByteArray} {us : List Int} {m : List Bool} (h : L[j]? = some (lf, ks, us)) (ht : isTN (lf, ks, us) = true) (hm : m.getD j true = false) : C1 L m (j : Int) = CL L (m.set j true) us := by
  have hl : j < L.length := (List.getElem?_eq_some_iff.1 h).1
  have hok : okN L m (j : Int) = true := by
    unfold okN inM
    rw [at_cast h, ht, Int.toNat_natCast, hm]
    have : (j : Int) < (L.length : Int) := by omega
    simp [this]
  unfold C1
  rw [if_pos hok, Int.toNat_natCast, at_cast h]
theorem CL_rep {L : List ND} {js : List Nat} {f : Fo} {S : List Nat} (h : RepF L js f S) : ∀ m : List Bool, m.length = L.length → S.Nodup → (∀ i ∈ S, m.getD i true = false) → ∃ m', CL L m (js.map fun (u : Nat) => (u : Int)) = some (f, m') ∧ m'.length = m.length ∧ ∀ i, m'.getD i true = (m.getD i true || decide (i ∈ S)) := by
  induction h with
  | nil => intro m _ _ _; exact ⟨m, CL_nil L m, rfl, fun i => by simp⟩
  | @cons j lf ks us rest f g S1 S2 h ht hk k r ihk ihr =>
    intro m hl hn hm
    have hjl : j < m.length := by rw [hl]; exact (List.getElem?_eq_some_iff.1 h).1
    obtain ⟨hj, hn'⟩ := List.nodup_cons.1 hn
    obtain ⟨n1, n2, n12⟩ := List.nodup_append.1 hn'
    have hmj := hm j List.mem_cons_self
    obtain ⟨m2, e2, l2, g2⟩ := ihk (m.set j true) (by rw [List.length_set, hl]) n1 (fun i hi => by
      rw [getD_setB m j i hjl, hm i (List.mem_cons_of_mem _ (List.mem_append_left _ hi))]
      have : i ≠ j := fun e => hj (e ▸ List.mem_append_left _ hi)
      simp [this])
    obtain ⟨m3, e3, l3, g3⟩ := ihr m2 (by rw [l2, List.length_set, hl]) n2 (fun i hi => by
      rw [g2 i, getD_setB m j i hjl, hm i (List.mem_cons_of_mem _ (List.mem_append_right _ hi))]
      have a1 : i ≠ j := fun e => hj (e ▸ List.mem_append_right _ hi)
      have a2 : i ∉ S1 := fun e => n12 i e i hi rfl
      simp [a1, a2])
    refine ⟨m3, ?_, by rw [l3, l2, List.length_set], fun i => ?_⟩
    · rw [List.map_cons, CL_some _ ((C1_rep h ht hmj).trans e2), at_cast h, if_neg hk, e3]; rfl
    · rw [g3 i, g2 i, getD_setB m j i hjl]
      simp [Bool.or_assoc]
theorem RepF.split {L : List ND} : ∀ {js1 js2 : List Nat} {F : Fo} {S : List Nat}, RepF L (js1 ++ js2) F S → ∃ F1 F2 S1 S2, F = F1.app F2 ∧ RepF L js1 F1 S1 ∧ RepF L js2 F2 S2 ∧ S = S1 ++ S2
  | [], js2, F, S, h => ⟨.nil, F, [], S, rfl, .nil, h, rfl⟩
  | j :: js1, js2, F, S, h => by
    cases h with
    | @cons _ lf ks us _ f g S1 S2 h ht hk k r =>
      obtain ⟨F1, F2, T1, T2, rfl, r1, r2, rfl⟩ := RepF.split (js1 := js1) r
      exact ⟨.node ks f F1, F2, j :: (S1 ++ T1), T2, rfl, .cons h ht hk k r1, r2, by simp [List.append_assoc]⟩
/-- The least keys of a forest's trees. -/
def Fo.leastsV : Fo → List ByteArray
  | .nil => []
  | .node ks k r => leastT ks k :: r.leastsV
/-- Within each tree the keys say where those below part. -/
def Fo.inn : Fo → Prop
  | .nil => True
  | .node ks k r => k.sg ks 0 ∧ r.inn
theorem Fo.leastsV_app : ∀ f g : Fo, (f.app g).leastsV = f.leastsV ++ g.leastsV
  | .nil, _ => rfl
  | .node ks k r, g => by rw [Fo.app, Fo.leastsV, Fo.leastsV, Fo.leastsV_app r]; rfl
theorem Fo.inn_app : ∀ f g : Fo, (f.app g).inn ↔ f.inn ∧ g.inn
  | .nil, g => by simp [Fo.app, Fo.inn]
  | .node ks k r, g => by rw [Fo.app, Fo.inn, Fo.inn, Fo.inn_app r, and_assoc]
theorem Fo.leastsV_len : ∀ f : Fo, f.leastsV.length = f.len
  | .nil => rfl
  | .node ks k r => by rw [Fo.leastsV, Fo.len, List.length_cons, Fo.leastsV_len r]
theorem RepF.len {L : List ND} {js : List Nat} {F : Fo} {S : List Nat} (h : RepF L js F S) : F.len = js.length := by
  induction h with
  | nil => rfl
  | cons h ht hk k r ihk ihr => rw [Fo.len, List.length_cons, ihr]
theorem sg_leastsV : ∀ (f : Fo) (us : List ByteArray) (i : Nat), f.inn → (∀ q, q < f.leastsV.length → 0 < i + q → us.getD (i + q - 1) zS = f.leastsV.getD q zS) → f.sg us i
  | .nil, _, _, _, _ => trivial
  | .node ks k r, us, i, h, hq => by
    refine ⟨fun h0 => ?_, h.1, sg_leastsV r us (i + 1) h.2 fun q hl h0 => ?_⟩
    · have := hq 0 (by rw [Fo.leastsV]; simp) (by omega)
      simpa [Fo.leastsV] using this
    · have := hq (q + 1) (by rw [Fo.leastsV]; simpa using hl) (by omega)
      rw [show i + 1 + q - 1 = i + (q + 1) - 1 by omega, this]
      rfl
theorem Fo.lv_up {f r : Fo} {d : Nat} {ks : List ByteArray} (hf : f.isNil = false) (h : f.lv d) (hr : r.lv (d + 1)) : (Fo.node ks f r).lv (d + 1) := ⟨.inr ⟨hf, d, rfl, h⟩, hr⟩
/-- A level over another. -/
theorem rep_up {L : List ND} : ∀ (ds : List Nat) (M : List ByteArray) (is : List Nat) (F : Fo) (S : List Nat) (t d : Nat), (∀ x ∈ ds, 2 ≤ x ∧ x ≤ 5) → is.length = ds.sum → RepF L is F S → F.leastsV = M → F.lv d → F.inn → (∀ i v, (upL ds M is)[i]? = some v → L[t + i]? = some (sayB v)) → ∃ F' S', RepF L (List.range' t ds.length) F' S' ∧ S'.Perm (List.range' t ds.length ++ S) ∧ F'.leastsV = upM ds M ∧ F'.all = F.all ∧ F'.lv (d + 1) ∧ F'.inn
  | [], M, is, F, S, t, d, _, hl, hr, hM, hv, hi, hL => by
    have e : is = [] := List.eq_nil_of_length_eq_zero (by simpa using hl)
    subst e
    cases hr
    exact ⟨.nil, [], .nil, by simp, by rw [← hM]; rfl, rfl, trivial, trivial⟩
  | x :: ds, M, is, F, S, t, d, hd, hl, hr, hM, hv, hi, hL => by
    have hx := hd x List.mem_cons_self
    rw [List.sum_cons] at hl
    have his : is = is.take x ++ is.drop x := (List.take_append_drop x is).symm
    rw [his] at hr
    obtain ⟨F1, F2, S1, S2, rfl, r1, r2, rfl⟩ := hr.split
    have l1 : (is.take x).length = x := by rw [List.length_take]; omega
    have f1 := r1.len
    rw [l1] at f1
    have m1 : F1.leastsV = M.take x := by
      rw [← hM, Fo.leastsV_app, List.take_append_of_le_length (by rw [Fo.leastsV_len]; omega), List.take_of_length_le (by rw [Fo.leastsV_len]; omega)]
    have m2 : F2.leastsV = M.drop x := by
      rw [← hM, Fo.leastsV_app, List.drop_append_of_le_length (by rw [Fo.leastsV_len]; omega), List.drop_eq_nil_of_le (by rw [Fo.leastsV_len]; omega)]; rfl
    obtain ⟨v1, v2⟩ := (Fo.lv_app F1 F2 d).1 hv
    obtain ⟨i1, i2⟩ := (Fo.inn_app F1 F2).1 hi
    have mlen : (M.take x).length = x := by rw [← m1, Fo.leastsV_len, f1]
    obtain ⟨F', S', q1, q2, q3, q4, q5, q6⟩ := rep_up ds (M.drop x) (is.drop x) F2 S2 (t + 1) d (fun y hy => hd y (List.mem_cons_of_mem _ hy)) (by rw [List.length_drop]; omega) r2 m2 v2 i2 (fun i v hv' => by
      have := hL (i + 1) v hv'
      rwa [show t + (i + 1) = t + 1 + i by omega] at this)
    have hn := hL 0 ((M.take x).drop 1, is.take x) rfl
    have hs : sayB ((M.take x).drop 1, is.take x) = (false, (M.take x).drop 1, (is.take x).map fun (u : Nat) => (u : Int)) := by
      unfold sayB
      dsimp only
      rw [l1, decide_eq_false (by omega)]
    rw [hs] at hn
    have hkl : ((M.take x).drop 1).length = x - 1 := by rw [List.length_drop, mlen]
    have hnil : F1.isNil = false := by cases F1 with | nil => simp [Fo.len] at f1; omega | node _ _ _ => rfl
    refine ⟨.node ((M.take x).drop 1) F1 F', t :: (S1 ++ S'), .cons hn ?_ (fun e => by rw [e] at hkl; simp at hkl; omega) r1 q1, ?_, ?_, ?_, Fo.lv_up hnil v1 q5, ?_, q6⟩
    · have hmap : ((is.take x).map fun (u : Nat) => (u : Int)).length = x := by rw [List.length_map, l1]
      unfold isTN
      dsimp only
      rw [hmap, hkl]
      simp; omega
    · rw [List.length_cons, List.range'_succ]
      refine List.Perm.cons _ ?_
      refine (List.Perm.append_left S1 q2).trans ?_
      have hp : (S1 ++ (List.range' (t + 1) ds.length ++ S2)).Perm (List.range' (t + 1) ds.length ++ (S1 ++ S2)) := by
        rw [← List.append_assoc, ← List.append_assoc]
        exact List.Perm.append_right S2 List.perm_append_comm
      exact hp
    · rw [Fo.leastsV, q3]
      show _ = _ :: _
      congr 1
      unfold leastT
      rw [hnil]
      cases F1 with
      | nil => simp [Fo.isNil] at hnil
      | node ks k r =>
        rw [← m1]; rfl
    · rw [Fo.all_node, q4, Fo.all_app]
      congr 1
      unfold allT
      rw [hnil]; rfl
    · refine sg_leastsV F1 _ 0 i1 fun q hq h0 => ?_
      rw [m1, List.getD_eq_getElem?_getD, List.getElem?_drop, List.getD_eq_getElem?_getD, show 1 + (0 + q - 1) = q by omega]
/-- The leaves. -/
theorem rep_leaves {L : List ND} : ∀ (ds : List Nat) (K : List ByteArray) (t : Nat), (∀ x ∈ ds, 0 < x ∧ x ≤ 4) → K.length = ds.sum → (∀ i v, (leafL ds K)[i]? = some v → L[t + i]? = some (sayB v)) → ∃ F, RepF L (List.range' t ds.length) F (List.range' t ds.length) ∧ F.leastsV = upM ds K ∧ F.all = K ∧ F.lv 1 ∧ F.inn
  | [], K, t, _, hl, _ => by
    have e : K = [] := List.eq_nil_of_length_eq_zero (by simpa using hl)
    subst e
    exact ⟨.nil, .nil, rfl, rfl, trivial, trivial⟩
  | x :: ds, K, t, hd, hl, hL => by
    have hx := hd x List.mem_cons_self
    rw [List.sum_cons] at hl
    obtain ⟨F, q1, q2, q3, q4, q5⟩ := rep_leaves ds (K.drop x) (t + 1) (fun y hy => hd y (List.mem_cons_of_mem _ hy)) (by rw [List.length_drop]; omega) (fun i v hv' => by
      have := hL (i + 1) v hv'
      rwa [show t + (i + 1) = t + 1 + i by omega] at this)
    have hn : L[t]? = some (true, K.take x, ([] : List Nat).map fun (u : Nat) => (u : Int)) := hL 0 (K.take x, []) rfl
    have hkl : (K.take x).length = x := by rw [List.length_take]; omega
    refine ⟨.node (K.take x) .nil F, ?_, ?_, ?_, ⟨.inl ⟨rfl, rfl⟩, q4⟩, trivial, q5⟩
    · rw [List.length_cons, List.range'_succ]
      exact RepF.cons (S1 := []) hn (by unfold isTN; simp [hkl]; omega) (fun e => by rw [e] at hkl; simp at hkl; omega) .nil q1
    · rw [Fo.leastsV, q2]; rfl
    · rw [Fo.all_node, q3]
      show K.take x ++ K.drop x = K
      exact List.take_append_drop x K
theorem Grown.rep {L : List ND} {ps : List Nat} {M : List ByteArray} {qs : List Nat} {Lb : List BR} (g : Grown ps M qs Lb) : ∀ (s m d : Nat) (F : Fo) (S : List Nat), ps = List.range' s m → 0 < m → qs = List.range' (s + m) Lb.length → (∀ i v, Lb[i]? = some v → L[s + m + i]? = some (sayB v)) → RepF L ps F S → S.Perm (List.range (s + m)) → F.leastsV = M → F.lv d → F.inn → ∃ r F' S' d', r + 1 = s + m + Lb.length ∧ RepF L [r] F' S' ∧ S'.Perm (List.range (s + m + Lb.length)) ∧ F'.all = F.all ∧ F'.lv d' ∧ F'.inn := by
  induction g with
  | one h =>
    intro s m d F S hp h0 hq hL hr hS hM hv hi
    subst hp
    rw [List.length_range'] at h
    subst h
    exact ⟨s, F, S, d, by simp, hr, by simpa using hS, rfl, hv, hi⟩
  | @more ps up qs M Lb h hl g ih =>
    intro s m d F S hp h0 hq hL hr hS hM hv hi
    have hm : ps.length = m := by rw [hp, List.length_range']
    rw [hm] at h hl hq hL ⊢
    have hP2 := fun d => parts_two (most := 5) (by omega) m m d (by omega)
    have hPp := parts_pos (most := 5) (by omega) m m
    have hPs := parts_sum (most := 5) (by omega) m m (Nat.le_refl _)
    have hP0 := parts_some (most := 5) h0 (Nat.le_refl _)
    have hu : (upL (parts 5 m m) M ps).length = up.length := by rw [upL_len, hl]
    rw [hm] at g ih
    rw [List.length_append, hu] at hq
    obtain ⟨e1, e2⟩ : up = List.range' (s + m) up.length ∧ qs = List.range' (s + m + up.length) Lb.length := by
      rw [← List.range'_append_1] at hq
      exact List.append_inj hq (by rw [List.length_range'])
    obtain ⟨F', S', q1, q2, q3, q4, q5, q6⟩ := rep_up (L := L) (parts 5 m m) M ps F S (s + m) d (fun x hx => ⟨hP2 x hx, (hPp x hx).2⟩) (by rw [hPs, hm]) hr hM hv hi (fun i v hv' => hL i v (by rw [List.getElem?_append_left (List.getElem?_eq_some_iff.1 hv').1]; exact hv'))
    rw [← hl] at q1 q2
    have hS' : S'.Perm (List.range (s + m + up.length)) := by
      refine q2.trans ?_
      refine (List.Perm.append_left _ hS).trans ?_
      refine List.perm_append_comm.trans ?_
      rw [List.range_eq_range', List.range_eq_range']
      have := List.range'_append_1 (s := 0) (m := s + m) (n := up.length)
      rw [Nat.zero_add] at this
      rw [this]
    obtain ⟨r, F'', S'', d', w1, w2, w3, w4, w5, w6⟩ := ih (s + m) up.length (d + 1) F' S' e1 (by rw [hl]; exact hP0) e2 (fun i v hv' => by
      have := hL (up.length + i) v (by rw [List.getElem?_append_right (by omega), hu, Nat.add_sub_cancel_left]; exact hv')
      rwa [← Nat.add_assoc] at this) (by rw [← e1] at q1; exact q1) hS' q3 q5 q6
    refine ⟨r, F'', S'', d', by rw [List.length_append, hu]; omega, w2, ?_, w4.trans q4, w5, w6⟩
    rw [List.length_append, hu, ← Nat.add_assoc]; exact w3
theorem Grown.few {ps : List Nat} {M : List ByteArray} {qs : List Nat} {Lb : List BR} (g : Grown ps M qs Lb) : qs.length ≤ ps.length := by
  induction g with
  | one h => simp
  | @more ps up qs M Lb h hl g ih =>
    have := parts_half (most := 5) (by omega) ps.length ps.length (by omega) (Nat.le_refl _)
    rw [List.length_append]; omega
/-- The tree of right keys is a right tree. -/
theorem TreeIs.good {K : List ByteArray} {says : List ND} (h : TreeIs K says) (hk : KOK K) : ∃ ks f d, TGood says ((says.length - 1 : Nat) : Int) ks f d ∧ allT ks f = K := by
  obtain ⟨qs, Lb, g, hq, rfl⟩ := h
  have h60 := hk.1
  have hlen : (leavesL K).length = (leafP K.length).length := by unfold leavesL; rw [leafL_len]
  have hfew : ((leavesL K ++ Lb).map sayB).length ≤ 200 := by
    have h1 := g.few
    have h2 := g.lenL
    have h3 := leafP_len K.length
    rw [List.length_range] at h1
    rw [List.length_map, List.length_append, hlen, h2]; omega
  by_cases h0 : K.length = 0
  · have e : K = [] := List.eq_nil_of_length_eq_zero h0
    subst e
    have hLb : Lb = [] := by
      cases g with
      | one _ => rfl
      | more h2 _ _ => simp [leafP] at h2
    subst hLb
    refine ⟨[], .nil, 1, ⟨by simpa using hfew, ⟨[true], ?_, rfl⟩, rfl, .inl ⟨rfl, rfl⟩, trivial, hk⟩, rfl⟩
    show C1 [(true, [], [])] [false] (0 : Int) = some (.nil, [true])
    have := C1_rep (L := [(true, [], [])]) (j := 0) (m := [false]) rfl rfl rfl
    rw [show ((0 : Nat) : Int) = 0 from rfl] at this
    rw [this]
    exact CL_nil _ _
  · have hP := leafP_some (n := K.length) (by omega)
    have hPp := parts_pos (most := 4) (by omega) K.length K.length
    have hPs := parts_sum (most := 4) (by omega) K.length K.length (Nat.le_refl _)
    have hP0 := parts_some (most := 4) (show 0 < K.length by omega) (Nat.le_refl _)
    have hLv : leavesL K = leafL (parts 4 K.length K.length) K := by unfold leavesL; rw [hP]
    rw [hP] at g hq hlen
    have hM : leafM K = upM (parts 4 K.length K.length) K := by unfold leafM; rw [if_neg h0, hP]
    obtain ⟨F, q1, q2, q3, q4, q5⟩ := rep_leaves (L := (leavesL K ++ Lb).map sayB) (parts 4 K.length K.length) K 0 hPp hPs.symm (fun i v hv => by
      rw [← hLv] at hv
      rw [Nat.zero_add, List.getElem?_map, List.getElem?_append_left (List.getElem?_eq_some_iff.1 hv).1, hv]; rfl)
    obtain ⟨r, F', S', d', w1, w2, w3, w4, w5, w6⟩ := g.rep (L := (leavesL K ++ Lb).map sayB) 0 (parts 4 K.length K.length).length 1 F _ List.range_eq_range' hP0 (by rw [Nat.zero_add]; exact hq) (fun i v hv => by
      rw [Nat.zero_add, List.getElem?_map, List.getElem?_append_right (by omega), hlen, Nat.add_sub_cancel_left, hv]; rfl) (by rw [List.range_eq_range']; exact q1) (by rw [Nat.zero_add, List.range_eq_range']) (by rw [hM]; exact q2) q4 q5
    rw [Nat.zero_add] at w1 w3
    have hL : ((leavesL K ++ Lb).map sayB).length = (parts 4 K.length K.length).length + Lb.length := by rw [List.length_map, List.length_append, hlen]
    have hr : ((((leavesL K ++ Lb).map sayB).length - 1 : Nat) : Int) = (r : Int) := by rw [hL]; omega
    rw [hr]
    have hnd : S'.Nodup := w3.nodup_iff.2 List.nodup_range
    cases w2 with
    | @cons _ lf ks us _ f gg S1 S2 h ht hkn k rr =>
      cases rr
      rw [List.append_nil] at hnd w3
      obtain ⟨hj, n1⟩ := List.nodup_cons.1 hnd
      have hrl : r < ((leavesL K ++ Lb).map sayB).length := by omega
      have gf : ∀ i, i < ((leavesL K ++ Lb).map sayB).length → (List.replicate ((leavesL K ++ Lb).map sayB).length false).getD i true = false := fun i hi => by
        rw [List.getD_eq_getElem?_getD, List.getElem?_replicate, if_pos hi]; rfl
      have hin : ∀ i ∈ r :: S1, i < ((leavesL K ++ Lb).map sayB).length := fun i hi => by
        have := w3.mem_iff.1 hi
        rw [List.mem_range] at this
        omega
      obtain ⟨m2, e2, l2, g2⟩ := CL_rep k ((List.replicate ((leavesL K ++ Lb).map sayB).length false).set r true) (by rw [List.length_set, List.length_replicate]) n1 (fun i hi => by
        rw [getD_setB _ r i (by rw [List.length_replicate]; exact hrl), gf i (hin i (List.mem_cons_of_mem _ hi))]
        have : i ≠ r := fun e => hj (e ▸ hi)
        simp [this])
      have hc1 := (C1_rep h ht (gf r hrl)).trans e2
      refine ⟨ks, f, d', ⟨hfew, ⟨m2, hc1, ?_⟩, by rw [at_cast h], ?_, w6.1, ?_⟩, ?_⟩
      · unfold cnt
        rw [List.count_eq_zero]
        intro hmem
        obtain ⟨i, hi⟩ := List.mem_iff_getElem?.1 hmem
        have hil : i < ((leavesL K ++ Lb).map sayB).length := by
          have := (List.getElem?_eq_some_iff.1 hi).1
          rw [l2, List.length_set, List.length_replicate] at this; exact this
        have hg := g2 i
        rw [List.getD_eq_getElem?_getD, hi, getD_setB _ r i (by rw [List.length_replicate]; exact hrl), gf i hil] at hg
        have hmi : i ∈ r :: S1 := w3.mem_iff.2 (by rw [List.mem_range]; omega)
        rcases List.mem_cons.1 hmi with e | e
        · simp [e] at hg
        · simp [e] at hg
      · exact w5.1
      · rw [show allT ks f = K by rw [← q3, ← w4, Fo.all_node, Fo.all, List.append_nil]]; exact hk
      · rw [← q3, ← w4, Fo.all_node, Fo.all, List.append_nil]

end Go.Proofs.Ythnggpjgajkaeaa
