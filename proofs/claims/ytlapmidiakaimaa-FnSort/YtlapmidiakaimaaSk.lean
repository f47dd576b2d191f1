/-
  Rows sorted: the specification.
-/
import Derived.Test.YtlapmidiakaimaaSj
import Derived.Test.YtlapmidiakaimaaBvc
import Derived.Deep.RegionHeld3
import Derived.Deep.QuietTactic
import Derived.BigQuiet
import Derived.Deep.RegionLaw
import Derived.Deep.RegionWith
import Derived.Deep.AppendLies
import Derived.Deep.RegionLawGrows
import Derived.Deep.CutBlock
import Derived.Deep.CutRange
namespace Go.Proofs.Ytlapmidiakaimaa
open Go Go.RowKit
attribute [local go_sem ↓] Go.wp_at_zero Go.wp_at_succ

set_option linter.unusedVariables false
set_option linter.unusedSimpArgs false
theorem step_app_any {P : Program} (w : World) {ops : Array Oper} {o : Oper} {a : Act} {K : Act → World → Prop} {Q : Exit → Act → World → Prop} {E : Prop} (hgd : o.guard = none) (s x : Operand) (t : TypeId)
    (ho : o.op = .call { callee := .builtin .append, args := #[s, x], argTypes := #[t, t] })
    (base : Nat) (e : TypeId) (i : TypeInfo) (z : Value) (size bytes : Nat) (ht : P.underlying t = some (.slice e)) (hi : P.info? e = some i) (hz : i.zero = some z)
    (hsize : i.size = size) (hby : i.bytes = bytes) (hzs : z.cells.size = size) (hsz : 0 < size)
    (v : Value) (n : Nat) (xs : List Value) (hs : a.eval s = v) (hown : w.ownsRow base e size v n xs)
    (ax : Option Addr) (m c : Nat) (news : List Value) (hx : a.eval x = .slice ax m c) (hnone : ax = none → m = 0 ∧ c = 0) (hl : news.length = m * size) (hnews : ∀ ad, ax = some ad → ∀ j u, news[j]? = some u → w.cell? (ad.add j) = some u) (h1 : ∀ u ∈ news, u.oneCell' = true)
    (h63 : n + m ≤ maxLen) (hbytes : (n + m) * bytes ≤ 140737488355328) (hbase : base ≤ w.heap.size)
    (h : ∀ a' c' w', w'.ownsRow base e size (.slice a' (n + m) c') (n + m) (xs ++ news) → w.grownBy w' v.ownBlock → (∀ g, ob a' = some g → v.ownBlock = some g ∨ g = w.heap.size) → K (a.put o.dst (.slice a' (n + m) c')) w') :
    if Region.wanted o (yielded ops a.tmps) = true then Oper.wp P o a w K Q else E := by
  have hw : Region.wanted o (yielded ops a.tmps) = true := by simp [Region.wanted, hgd]
  rw [if_pos hw]
  cases ax with
  | none =>
    obtain ⟨rfl, rfl⟩ := hnone rfl
    have hn : news = [] := List.eq_nil_of_length_eq_zero (by simpa using hl)
    subst hn
    obtain ⟨a', c', rfl, _⟩ := own_slc hown
    have hrun := run_append_owned_none (P := P) (w := w) base t o.type e i size ht hi _ n xs hown
    unfold Oper.wp execOp
    simp only [ho, resolve, invoke, builtin, Sem.run_bind, Sem.run_pure, Result.andThen_ok, List.map_toArray, List.map_cons, List.map_nil, hs, hx, hrun]
    exact h a' c' w (by simpa using hown) (World.grownBy.refl _ _) (fun g e => .inl (by rw [ob_slice]; exact e))
  | some ad =>
    obtain ⟨v', w', hr, hown', hgr, _, hblk⟩ := run_append_own_at (P := P) w base t o.type e i z size bytes ht hi hz hsize hby hzs hsz v n xs hown ad m c news hl (hnews ad rfl) h1 h63 hbytes hbase
    obtain ⟨a', c', rfl, _⟩ := own_slc hown'
    rw [ob_slice] at hblk
    unfold Oper.wp execOp
    simp only [ho, resolve, invoke, builtin, Sem.run_bind, Sem.run_pure, Result.andThen_ok, List.map_toArray, List.map_cons, List.map_nil, hs, hx, hr]
    exact h a' c' w' hown' hgr (fun g e => hblk.elim (fun k => .inl (k ▸ e)) (fun k => .inr (Option.some.inj (e.symm.trans k))))
theorem emp_own {w : World} {g base size : Nat} {t : TypeId} (h : Box w g t #[]) (hb : base ≤ g) : w.ownsRow base t size (.slice (some ⟨g, 0, none⟩) 0 0) 0 [] := by
  refine ⟨by simp, .inr ⟨g, 0, #[], rfl, hb, ?_, ?_⟩⟩
  all_goals first | exact h | simp
theorem bless_asym : ∀ a b : List UInt8, Op.bytesLess a b = true → Op.bytesLess b a = false
  | _, [], h => by simp [Op.bytesLess] at h
  | [], _ :: _, _ => by simp [Op.bytesLess]
  | a :: x, b :: y, h => by
    simp only [Op.bytesLess, Bool.or_eq_true, Bool.and_eq_true, decide_eq_true_eq, beq_iff_eq] at h
    simp only [Op.bytesLess, Bool.or_eq_false_iff, Bool.and_eq_false_iff, decide_eq_false_iff_not, beq_eq_false_iff_ne, ne_eq]
    rcases h with h | ⟨h, h'⟩
    · exact ⟨fun k => absurd (UInt8.lt_trans h k) (UInt8.lt_irrefl _), .inl fun e => by rw [e] at h; exact UInt8.lt_irrefl _ h⟩
    · exact ⟨by rw [h]; exact UInt8.lt_irrefl _, .inr (bless_asym x y h')⟩
theorem bless_total : ∀ a b : List UInt8, Op.bytesLess a b = false → a ≠ b → Op.bytesLess b a = true
  | [], [], _, h => absurd rfl h
  | a :: x, [], _, _ => by simp [Op.bytesLess]
  | [], b :: y, h, _ => by simp [Op.bytesLess] at h
  | a :: x, b :: y, h, hn => by
    simp only [Op.bytesLess, Bool.or_eq_false_iff, Bool.and_eq_false_iff, decide_eq_false_iff_not, beq_eq_false_iff_ne, ne_eq] at h
    simp only [Op.bytesLess, Bool.or_eq_true, Bool.and_eq_true, decide_eq_true_eq, beq_iff_eq]
    by_cases e : a = b
    · subst e
      refine .inr ⟨rfl, bless_total x y ?_ (fun k => hn (by rw [k]))⟩
      rcases h.2 with k | k
      · exact absurd rfl k
      · exact k
    · refine .inl ?_
      have h1 : ¬ a.toNat < b.toNat := h.1
      have h2 : a.toNat ≠ b.toNat := fun k => e (UInt8.toNat_inj.1 k)
      show b.toNat < a.toNat
      omega
theorem cmpI_anti (a b : Int) : cmpI b a = - cmpI a b := by unfold cmpI; split <;> split <;> (try split) <;> omega
theorem cmpS_anti (a b : ByteArray) : cmpS b a = - cmpS a b := by
  unfold cmpS eqS lessS
  by_cases h : a.toList = b.toList
  · rw [h]; simp
  · have h' : ¬ b.toList = a.toList := fun k => h k.symm
    have e1 : (a.toList == b.toList) = false := by simpa using h
    have e2 : (b.toList == a.toList) = false := by simpa using h'
    rw [e1, e2]
    cases hl : Op.bytesLess a.toList b.toList
    · rw [bless_total _ _ hl h]; rfl
    · rw [bless_asym _ _ hl]; rfl
theorem cmpV_anti (k n : Int) (t : ByteArray) (k' n' : Int) (t' : ByteArray) : cmpV k' n' t' k n t = - cmpV k n t k' n' t' := by
  unfold cmpV
  by_cases h1 : k = k'
  · subst h1
    by_cases h2 : n = n'
    · subst h2; simp [cmpS_anti t t']
    · simp [h2, Ne.symm h2, cmpI_anti n n']
  · simp [h1, Ne.symm h1, cmpI_anti k k']
theorem cU_anti (c : Int) (x y : RW) : cU c y x = - cU c x y := by
  unfold cU
  have h : cV c y x = - cV c x y := cmpV_anti _ _ _ _ _ _
  rw [h, cmpI_anti x.i y.i]
  by_cases h0 : cV c x y = 0
  · rw [if_pos h0, if_pos (by omega)]
  · rw [if_neg h0, if_neg (by omega)]
theorem cmpI_bd (a b : Int) : -1 ≤ cmpI a b ∧ cmpI a b ≤ 1 := by unfold cmpI; split <;> (try split) <;> omega
theorem cmpV_bd (k n : Int) (t : ByteArray) (k' n' : Int) (t' : ByteArray) : -1 ≤ cmpV k n t k' n' t' ∧ cmpV k n t k' n' t' ≤ 1 := by
  unfold cmpV cmpS
  split
  · exact cmpI_bd _ _
  · split
    · exact cmpI_bd _ _
    · split <;> (try split) <;> omega
theorem cU_bd (c : Int) (x y : RW) : -1 ≤ cU c x y ∧ cU c x y ≤ 1 := by
  unfold cU
  split
  · exact cmpI_bd _ _
  · exact cmpV_bd _ _ _ _ _ _
theorem ordF_eq (c : Int) (d : Bool) (x y : RW) : ordF c d x y = if d then - cU c x y else cU c x y := by
  unfold ordF; cases d <;> simp [cU_anti c x y]
theorem cmpV_int (a b : Int) : cmpV 1 a ⟨#[]⟩ 1 b ⟨#[]⟩ = cmpI a b := by
  unfold cmpV
  rw [if_neg (by simp)]
  by_cases h : a = b
  · subst h; rw [if_neg (by simp)]; simp [cmpI, cmpS, eqS]
  · rw [if_pos h]
set_option maxRecDepth 100000 in
set_option maxHeartbeats 8000000 in
theorem c_l12Sort (a : Option Addr) (n cp : Nat) (vs : List RW) (c : Int) (d : Bool) (w : World) (hr : RdR w a n vs) (hn : n ≤ 4096) (hc2 : inB c 0 2 = true) :
    Calls Try.prog 50 #[.slice a n cp, .int .i64 c, .bool d] w fun e w' => (∃ a' c', e = .returned (.slice a' n c') ∧ w'.ownsRow w.heap.size 35 7 (.slice a' n c') n (cellsR (sortR (ordF c d) vs))) ∧ Below w.heap.size w w' := by
  have HRD : Hid (RdR w a n vs) := hr
  have HC2 : Hid (inB c 0 2 = true) := hc2
  have hl : vs.length = n := hr.1
  obtain ⟨i0, qi0, qz0, qz1, qz2⟩ := info_parts infoR
  have hi0 : Hid (_) := qi0
  have hz0 : Hid (_) := qz0
  have hz1 : Hid (_) := qz1
  have hz2 : Hid (_) := qz2
  clear hr hc2 qi0 qz0 qz1 qz2
  go_enter Try.func50, Try.ntmps50
  go_wp2
  go_loopw [7, 8] (fun o i wr => ∃ (k : Nat) (a' : Option Addr) (c' : Nat), k ≤ n ∧ i = .int .i64 k ∧ o = .slice a' k c' ∧ Hid (wr.ownsRow w.heap.size 35 7 (.slice a' k c') k (cellsR (sortR (ordF c d) (vs.take k)))) ∧ Hid (a'.isSome = true) ∧ Hid (Below w.heap.size w wr)) (fun _ i _ => n - (intOf i).toNat)
  case atStart => exact ⟨0, _, _, by omega, rfl, rfl, World.ownsRow_lit w #[] 0 (Nat.le_refl _) (Nat.zero_le _) rfl, rfl, (Below.refl _ _).alloc (Nat.le_refl _) _⟩
  case round =>
    obtain ⟨k, a1, c1, hk, rfl, rfl, OW, HA, B⟩ := hrel
    rename World => wo
    by_cases hlt : k < n
    · obtain ⟨b, off, rfl, hbl, hc⟩ := HRD.out.2 (by omega)
      obtain ⟨⟨vi, va, vb, vt, vp, vq, vz⟩, hv⟩ : ∃ v, v = vs.getD k zeroR := ⟨_, rfl⟩
      obtain ⟨d0, d1, d2, d3, d4, d5, d6⟩ := RdR.at hc hlt hv
      dsimp only at d0 d1 d2 d3 d4 d5 d6
      have e0 : wo.cell? ⟨b, off + k * 7, none⟩ = some (.int .i64 vi) := by rw [B.out.cell (p := ⟨b, off + k * 7, none⟩) hbl, d0]
      have e1 : wo.cell? ⟨b, off + k * 7 + 1, none⟩ = some (.int .i64 va) := by rw [B.out.cell (p := ⟨b, off + k * 7 + 1, none⟩) hbl, d1]
      have e2 : wo.cell? ⟨b, off + k * 7 + 2, none⟩ = some (.int .i64 vb) := by rw [B.out.cell (p := ⟨b, off + k * 7 + 2, none⟩) hbl, d2]
      have e3 : wo.cell? ⟨b, off + k * 7 + 3, none⟩ = some (.string vt) := by rw [B.out.cell (p := ⟨b, off + k * 7 + 3, none⟩) hbl, d3]
      have e4 : wo.cell? ⟨b, off + k * 7 + 4, none⟩ = some (.int .i64 vp) := by rw [B.out.cell (p := ⟨b, off + k * 7 + 4, none⟩) hbl, d4]
      have e5 : wo.cell? ⟨b, off + k * 7 + 5, none⟩ = some (.int .i64 vq) := by rw [B.out.cell (p := ⟨b, off + k * 7 + 5, none⟩) hbl, d5]
      have e6 : wo.cell? ⟨b, off + k * 7 + 6, none⟩ = some (.string vz) := by rw [B.out.cell (p := ⟨b, off + k * 7 + 6, none⟩) hbl, d6]
      obtain ⟨S, hS⟩ : ∃ S, sortR (ordF c d) (vs.take k) = S := ⟨_, rfl⟩
      have hSl : S.length = k := by rw [← hS, sortR_len]; simp; omega
      have HSS : Hid (sortR (ordF c d) (vs.take (k + 1)) = insR (ordF c d) S ⟨vi, va, vb, vt, vp, vq, vz⟩) := by unfold Hid; rw [sortR_step _ vs k (by omega), hS, hv]
      rw [hS] at OW
      obtain ⟨g, rfl⟩ : ∃ g, a1 = some ⟨g, 0, none⟩ := by
        rcases own_form OW.out with ⟨h1, _⟩ | ⟨g, cp, h1, _⟩
        · simp only [Value.slice.injEq] at h1; have := HA.out; rw [h1.1] at this; cases this
        · simp only [Value.slice.injEq] at h1; exact ⟨g, h1.1⟩
      have hkc : k ≤ c1 := by
        rcases OW.out.2 with ⟨h1, h0⟩ | ⟨g', cap', cur, h1, _, _, h2, _⟩
        · cases h1
        · simp only [Value.slice.injEq] at h1; omega
      have hcm : c1 ≤ maxLen := by
        rcases OW.out.2 with ⟨h1, h0⟩ | ⟨g', cap', cur, h1, _, _, _, h2, _⟩
        · cases h1
        · simp only [Value.slice.injEq] at h1; omega
      unfold maxLen at hcm
      have g1 : (0 : Int) ≤ (k : Int) := by omega
      have g2 : (k : Int) < (n : Int) := by omega
      clear hc hv d0 d1 d2 d3 d4 d5 d6 hS HA
      go_upto_block 2 with fail
      go_cut [9, 10] from 12 to 73 (fun s9 s10 wx => ∃ m : Nat, m ≤ k ∧ s9 = .int .i64 m ∧ Hid (posR (ordF c d) ⟨vi, va, vb, vt, vp, vq, vz⟩ S k = m) ∧ Hid (Below wo.heap.size wo wx))
      case first =>
        go_wp2_with fail
        go_loopw [9] (fun o wi => ∃ m : Nat, m ≤ k ∧ o = .int .i64 m ∧ Hid (posR (ordF c d) ⟨vi, va, vb, vt, vp, vq, vz⟩ S k = posR (ordF c d) ⟨vi, va, vb, vt, vp, vq, vz⟩ S m) ∧ Hid (Below wo.heap.size wo wi)) (fun o _ => (intOf o).toNat)
        case atStart => exact ⟨k, by omega, rfl, rfl, Below.refl _ _⟩
        case round =>
          obtain ⟨m, hm, rfl, HP, BI⟩ := hrel
          rename World => wi
          rcases Nat.eq_zero_or_pos m with hm0 | hmp
          · subst hm0
            go_wp2_with fail
            go_meet
            case rel => exact ⟨0, by omega, rfl, by unfold Hid; rw [HP.out]; rfl, BI⟩
          · obtain ⟨j, rfl⟩ : ∃ j, m = j + 1 := ⟨m - 1, by omega⟩
            have Oi : Hid (wi.ownsRow w.heap.size 35 7 (.slice (some ⟨g, 0, none⟩) k c1) k (cellsR S)) := own_below OW.out BI.out
            have R := RdR.own Oi.out
            obtain ⟨bb, oo, hbo, hbb, hcc⟩ := R.2 (by omega)
            obtain ⟨rfl, rfl⟩ : g = bb ∧ 0 = oo := by simpa using hbo
            obtain ⟨⟨yi, ya, yb, yt, yp, yq, yz⟩, hy⟩ : ∃ y, y = S.getD j zeroR := ⟨_, rfl⟩
            obtain ⟨d0, d1, d2, d3, d4, d5, d6⟩ := RdR.at hcc (show j < k by omega) hy
            simp only [Nat.zero_add] at d0 d1 d2 d3 d4 d5 d6
            have u0 := far6 BI.out e0
            have u1 := far6 BI.out e1
            have u2 := far6 BI.out e2
            have u3 := far6 BI.out e3
            have u4 := far6 BI.out e4
            have u5 := far6 BI.out e5
            have u6 := far6 BI.out e6
            obtain ⟨z, hz⟩ : ∃ z, cU c ⟨yi, ya, yb, yt, yp, yq, yz⟩ ⟨vi, va, vb, vt, vp, vq, vz⟩ = z := ⟨_, rfl⟩
            have hzb : -1 ≤ z ∧ z ≤ 1 := by rw [← hz]; exact cU_bd _ _ _
            have HO : Hid (ordF c d (S.getD j zeroR) ⟨vi, va, vb, vt, vp, vq, vz⟩ = if d then -z else z) := by unfold Hid; rw [ordF_eq, ← hy, hz]
            have HU : Hid (z = if cV c ⟨yi, ya, yb, yt, yp, yq, yz⟩ ⟨vi, va, vb, vt, vp, vq, vz⟩ = 0 then cmpI yi vi else cV c ⟨yi, ya, yb, yt, yp, yq, yz⟩ ⟨vi, va, vb, vt, vp, vq, vz⟩) := by unfold Hid; rw [← hz]; rfl
            obtain ⟨r1, hr1⟩ : ∃ r, cV c ⟨yi, ya, yb, yt, yp, yq, yz⟩ ⟨vi, va, vb, vt, vp, vq, vz⟩ = r := ⟨_, rfl⟩
            rw [hr1] at HU
            have CQY : Hid (∀ r : Out wi, Calls Try.prog 75 #[.agg #[.int .i64 yi, .int .i64 ya, .int .i64 yb, .string yt, .int .i64 yp, .int .i64 yq, .string yz], .int .i64 c] r.y fun e w' => e = .returned (.agg #[.int .i64 (colR c ⟨yi, ya, yb, yt, yp, yq, yz⟩).k, .int .i64 (colR c ⟨yi, ya, yb, yt, yp, yq, yz⟩).n, .string (colR c ⟨yi, ya, yb, yt, yp, yq, yz⟩).t]) ∧ Below r.y.heap.size r.y w') := fun r => c_colRS c yi ya yb yt yp yq yz r.y HC2.out
            have CQV : Hid (∀ r : Out wi, Calls Try.prog 75 #[.agg #[.int .i64 vi, .int .i64 va, .int .i64 vb, .string vt, .int .i64 vp, .int .i64 vq, .string vz], .int .i64 c] r.y fun e w' => e = .returned (.agg #[.int .i64 (colR c ⟨vi, va, vb, vt, vp, vq, vz⟩).k, .int .i64 (colR c ⟨vi, va, vb, vt, vp, vq, vz⟩).n, .string (colR c ⟨vi, va, vb, vt, vp, vq, vz⟩).t]) ∧ Below r.y.heap.size r.y w') := fun r => c_colRS c vi va vb vt vp vq vz r.y HC2.out
            have CQC : Hid (∀ r : Out wi, Calls Try.prog 74 #[.agg #[.int .i64 (colR c ⟨yi, ya, yb, yt, yp, yq, yz⟩).k, .int .i64 (colR c ⟨yi, ya, yb, yt, yp, yq, yz⟩).n, .string (colR c ⟨yi, ya, yb, yt, yp, yq, yz⟩).t], .agg #[.int .i64 (colR c ⟨vi, va, vb, vt, vp, vq, vz⟩).k, .int .i64 (colR c ⟨vi, va, vb, vt, vp, vq, vz⟩).n, .string (colR c ⟨vi, va, vb, vt, vp, vq, vz⟩).t]] r.y fun e w' => e = .returned (.int .i64 r1) ∧ Below r.y.heap.size r.y w') := fun r => by rw [← hr1]; exact c_cmpL _ _ _ _ _ _ r.y
            obtain ⟨pc, hpc⟩ : ∃ p, colR c ⟨yi, ya, yb, yt, yp, yq, yz⟩ = p := ⟨_, rfl⟩
            obtain ⟨qc, hqc⟩ : ∃ p, colR c ⟨vi, va, vb, vt, vp, vq, vz⟩ = p := ⟨_, rfl⟩
            rw [hpc] at CQY CQC
            rw [hqc] at CQV CQC
            have q0 := fun r : Out wi => q_cell d0 r
            have q1 := fun r : Out wi => q_cell d1 r
            have q2 := fun r : Out wi => q_cell d2 r
            have q3 := fun r : Out wi => q_cell d3 r
            have q4 := fun r : Out wi => q_cell d4 r
            have q5 := fun r : Out wi => q_cell d5 r
            have q6 := fun r : Out wi => q_cell d6 r
            have p0 := fun r : Out wi => q_cell u0 r
            have p1 := fun r : Out wi => q_cell u1 r
            have p2 := fun r : Out wi => q_cell u2 r
            have p3 := fun r : Out wi => q_cell u3 r
            have p4 := fun r : Out wi => q_cell u4 r
            have p5 := fun r : Out wi => q_cell u5 r
            have p6 := fun r : Out wi => q_cell u6 r
            have h1 : (0 : Int) < (j : Int) + 1 := by omega
            have g3 : (0 : Int) ≤ (j : Int) := by omega
            have g4 : (j : Int) < (k : Int) := by omega
            have wy := d0
            clear hz hr1 hpc hqc hcc hbb hbo R d0 d1 d2 d3 d4 d5 d6 hy
            go_wp2_with fail
            haveI nonE := Out.some wi
            refine q_begin (by kernel_rfl) (by kernel_rfl) ?_
            repeat (go_big_quiet_step (first | with_reducible exact q_call (CQY.out _) | with_reducible exact q_call (CQV.out _) | with_reducible exact q_call (CQC.out _)))
            refine wpQuiet_nil ?_
            rintro w3 ⟨⟨y', hb3⟩, hy⟩
            have hy' : w3 = y' := hy
            clear hy
            subst hy'
            have BI3 : Hid (Below wo.heap.size wo w3) := BI.out.trans (hb3.mono BI.out.size)
            have f3 := hb3
            clear CQY CQV CQC q0 p0 u0 q1 p1 u1 q2 p2 u2 q3 p3 u3 q4 p4 u4 q5 p5 u5 q6 p6 u6
            by_cases h0 : r1 = 0
            · have e1 : (r1 == 0) = true := by simp [h0]
              have HZ : Hid (z = cmpI yi vi) := by unfold Hid; rw [HU.out, if_pos h0]
              have O3 : Hid (w3.ownsRow w.heap.size 35 7 (.slice (some ⟨g, 0, none⟩) k c1) k (cellsR S)) := own_below Oi.out f3
              have wv := far6 f3 (far6 BI.out e0)
              have wy0 := far6 f3 wy
              have qa := fun r : Out w3 => q_cell wv r
              have qb := fun r : Out w3 => q_cell wy0 r
              have CIY : Hid (∀ r : Out w3, Calls Try.prog 76 #[.int .i64 yi] r.y fun e w' => e = .returned (.agg #[.int .i64 1, .int .i64 yi, .string ⟨#[]⟩]) ∧ Below r.y.heap.size r.y w') := fun r => c_l10Int yi r.y
              have CIV : Hid (∀ r : Out w3, Calls Try.prog 76 #[.int .i64 vi] r.y fun e w' => e = .returned (.agg #[.int .i64 1, .int .i64 vi, .string ⟨#[]⟩]) ∧ Below r.y.heap.size r.y w') := fun r => c_l10Int vi r.y
              have CIC : Hid (∀ r : Out w3, Calls Try.prog 74 #[.agg #[.int .i64 1, .int .i64 yi, .string ⟨#[]⟩], .agg #[.int .i64 1, .int .i64 vi, .string ⟨#[]⟩]] r.y fun e w' => e = .returned (.int .i64 z) ∧ Below r.y.heap.size r.y w') := fun r => by rw [HZ.out, ← cmpV_int]; exact c_cmpL _ _ _ _ _ _ r.y
              clear h0 hb3 f3 HU HZ
              go_wp2_with fail
              haveI nonE := Out.some w3
              refine q_begin (by kernel_rfl) (by kernel_rfl) ?_
              repeat (go_big_quiet_step (first | with_reducible exact q_call (CIY.out _) | with_reducible exact q_call (CIV.out _) | with_reducible exact q_call (CIC.out _)))
              refine wpQuiet_nil ?_
              rintro w4 ⟨⟨y', hb4⟩, hy⟩
              have hy' : w4 = y' := hy
              clear hy
              subst hy'
              have BI4 : Hid (Below wo.heap.size wo w4) := BI3.out.trans (hb4.mono BI3.out.size)
              clear hb4 CIY CIV CIC qa qb
              cases d
              · by_cases hzz : z ≤ 0
                · go_wp2
                  go_meet
                  case rel => exact ⟨j + 1, by omega, by simp, by unfold Hid; rw [HP.out]; exact posR_stop (by rw [HO.out]; simp; omega), BI4⟩
                · go_wp2
                  go_roundw
                  case rel => exact ⟨j, by omega, by go_num, by unfold Hid; rw [HP.out]; exact posR_go (by rw [HO.out]; simp; omega), BI4⟩
                  case measure => simp [intOf]
              · have nz : wrap64 (-z) = -z := by unfold wrap64; omega
                by_cases hzz : -z ≤ 0
                · go_wp2
                  go_meet
                  case rel => exact ⟨j + 1, by omega, by simp, by unfold Hid; rw [HP.out]; exact posR_stop (by rw [HO.out]; simp; omega), BI4⟩
                · go_wp2
                  go_roundw
                  case rel => exact ⟨j, by omega, by go_num, by unfold Hid; rw [HP.out]; exact posR_go (by rw [HO.out]; simp; omega), BI4⟩
                  case measure => simp [intOf]
            · have e1 : (r1 == 0) = false := by simp [h0]
              have HZ : Hid (r1 = z) := by unfold Hid; rw [HU.out, if_neg h0]
              obtain rfl : z = r1 := HZ.out.symm
              have BI4 := BI3
              clear h0 hb3 f3 HU HZ BI3
              cases d
              · by_cases hzz : z ≤ 0
                · go_wp2
                  go_meet
                  case rel => exact ⟨j + 1, by omega, by simp, by unfold Hid; rw [HP.out]; exact posR_stop (by rw [HO.out]; simp; omega), BI4⟩
                · go_wp2
                  go_roundw
                  case rel => exact ⟨j, by omega, by go_num, by unfold Hid; rw [HP.out]; exact posR_go (by rw [HO.out]; simp; omega), BI4⟩
                  case measure => simp [intOf]
              · have nz : wrap64 (-z) = -z := by unfold wrap64; omega
                by_cases hzz : -z ≤ 0
                · go_wp2
                  go_meet
                  case rel => exact ⟨j + 1, by omega, by simp, by unfold Hid; rw [HP.out]; exact posR_stop (by rw [HO.out]; simp; omega), BI4⟩
                · go_wp2
                  go_roundw
                  case rel => exact ⟨j, by omega, by go_num, by unfold Hid; rw [HP.out]; exact posR_go (by rw [HO.out]; simp; omega), BI4⟩
                  case measure => simp [intOf]
      case rest =>
        obtain ⟨m, hm, rfl, HK, BI⟩ := hcut
        rename World => wi
        have Oi : Hid (wi.ownsRow w.heap.size 35 7 (.slice (some ⟨g, 0, none⟩) k c1) k (cellsR S)) := own_below OW.out BI.out
        have Bi : Hid (Below w.heap.size w wi) := B.out.trans (BI.out.mono B.out.size)
        have x0 := far6 BI.out e0
        have x1 := far6 BI.out e1
        have x2 := far6 BI.out e2
        have x3 := far6 BI.out e3
        have x4 := far6 BI.out e4
        have x5 := far6 BI.out e5
        have x6 := far6 BI.out e6
        clear e0 e1 e2 e3 e4 e5 e6
        have e0 := x0
        clear x0
        have e1 := x1
        clear x1
        have e2 := x2
        clear x2
        have e3 := x3
        clear x3
        have e4 := x4
        clear x4
        have e5 := x5
        clear x5
        have e6 := x6
        clear x6
        clear OW B BI
        have g5 : (0 : Int) ≤ (m : Int) := by omega
        have g6 : (m : Int) ≤ (k : Int) := by omega
        have g7 : (m : Int) ≤ (c1 : Int) := by omega
        by_cases hcc : c1 = m
        · obtain rfl : m = c1 := hcc.symm
          clear hcc
          obtain ⟨VA, hVA⟩ : ∃ W, wi.alloc (.cells #[] 35) = W := ⟨_, rfl⟩
          have bVA : Below wi.heap.size wi VA := by rw [← hVA]; exact (Below.refl _ _).alloc (Nat.le_refl _) _
          have EA : Hid (Box VA wi.heap.size 35 #[]) := by unfold Hid; rw [← hVA]; exact Box.new _ _ _
          have lA : wi.heap.size < VA.heap.size := EA.out.lt
          obtain ⟨VAB, hVAB⟩ : ∃ W, VA.alloc (.cells #[.int .i64 vi, .int .i64 va, .int .i64 vb, .string vt, .int .i64 vp, .int .i64 vq, .string vz] 35) = W := ⟨_, rfl⟩
          have bVAB : Below VA.heap.size VA VAB := by rw [← hVAB]; exact (Below.refl _ _).alloc (Nat.le_refl _) _
          have EAB : Hid (Box VAB wi.heap.size 35 #[]) := EA.out.belowS bVAB
          have XAB : Hid (Box VAB VA.heap.size 35 #[.int .i64 vi, .int .i64 va, .int .i64 vb, .string vt, .int .i64 vp, .int .i64 vq, .string vz]) := by unfold Hid; rw [← hVAB]; exact Box.new _ _ _
          have lAB : VA.heap.size < VAB.heap.size := XAB.out.lt
          obtain ⟨VB, hVB⟩ : ∃ W, wi.alloc (.cells #[.int .i64 vi, .int .i64 va, .int .i64 vb, .string vt, .int .i64 vp, .int .i64 vq, .string vz] 35) = W := ⟨_, rfl⟩
          have bVB : Below wi.heap.size wi VB := by rw [← hVB]; exact (Below.refl _ _).alloc (Nat.le_refl _) _
          have XB : Hid (Box VB wi.heap.size 35 #[.int .i64 vi, .int .i64 va, .int .i64 vb, .string vt, .int .i64 vp, .int .i64 vq, .string vz]) := by unfold Hid; rw [← hVB]; exact Box.new _ _ _
          have lB : wi.heap.size < VB.heap.size := XB.out.lt
          obtain ⟨VBA, hVBA⟩ : ∃ W, VB.alloc (.cells #[] 35) = W := ⟨_, rfl⟩
          have bVBA : Below VB.heap.size VB VBA := by rw [← hVBA]; exact (Below.refl _ _).alloc (Nat.le_refl _) _
          have EBA : Hid (Box VBA VB.heap.size 35 #[]) := by unfold Hid; rw [← hVBA]; exact Box.new _ _ _
          have XBA : Hid (Box VBA wi.heap.size 35 #[.int .i64 vi, .int .i64 va, .int .i64 vb, .string vt, .int .i64 vp, .int .i64 vq, .string vz]) := XB.out.belowS bVBA
          have lBA : VB.heap.size < VBA.heap.size := EBA.out.lt
          have BA : Hid (Below wi.heap.size wi VA) := bVA
          have BAB : Hid (Below wi.heap.size wi VAB) := bVA.trans (bVAB.mono bVA.size)
          have BBA : Hid (Below wi.heap.size wi VBA) := bVB.trans (bVBA.mono bVB.size)
          clear bVA bVAB bVB bVBA
          have ea0 := far6 BA.out e0
          have ea1 := far6 BA.out e1
          have ea2 := far6 BA.out e2
          have ea3 := far6 BA.out e3
          have ea4 := far6 BA.out e4
          have ea5 := far6 BA.out e5
          have ea6 := far6 BA.out e6
          have SRC : Hid (∀ W, Below wi.heap.size wi W → ∀ q j u, ((cellsR S).drop (q * 7))[j]? = some u → W.cell? ((⟨g, q * 7, none⟩ : Addr).add j) = some u) := fun W hW q => srcOwn (own_below Oi.out hW) q
          have SR1 : Hid (∀ W, Below wi.heap.size wi W → ∀ j u, (cellsR (S.take m))[j]? = some u → W.cell? ((⟨g, 0, none⟩ : Addr).add j) = some u) := fun W hW j u hj => by
            have := SRC.out W hW 0 j u (by rw [Nat.zero_mul, List.drop_zero, ← List.take_append_drop m S, cellsR_append, List.getElem?_append_left (List.getElem?_eq_some_iff.1 hj).1]; exact hj)
            simpa using this
          have SR2 : Hid (∀ W, Below wi.heap.size wi W → ∀ j u, (cellsR (S.drop m))[j]? = some u → W.cell? ((⟨g, m * 7, none⟩ : Addr).add j) = some u) := fun W hW j u hj => SRC.out W hW m j u (by rw [cellsR_drop S m (by omega)]; exact hj)
          have tl : (S.take m).length = m := by rw [List.length_take]; omega
          have TL : Hid ((cellsR (S.take m)).length = m * 7) := by unfold Hid; rw [cellsR_len, tl]
          have DL : Hid ((cellsR (S.drop m)).length = (k - m) * 7) := by unfold Hid; rw [cellsR_len, List.length_drop, hSl]
          clear tl
          go_wp2_with fail
          go_region_law (first
            | (refine step_app_any _ (by rfl) (.tmp 59) (.tmp 62) 46 (by rfl) wi.heap.size 35 i0 (.agg #[.int .i64 0, .int .i64 0, .int .i64 0, .string ⟨#[]⟩, .int .i64 0, .int .i64 0, .string ⟨#[]⟩]) 7 72 Try.underlying46 hi0.out hz0.out hz1.out hz2.out rfl (by omega) (.slice (some ⟨wi.heap.size, 0, none⟩) 0 0) 0 [] (by rfl) (by exact emp_own EA.out (by omega)) (some ⟨g, 0, none⟩) m m (cellsR (S.take m)) (by rfl) (fun ex => by cases ex) TL.out (fun ad ex => by cases ex; exact SR1.out _ (Below.drew BA.out)) (oneR (S.take m)) (by unfold maxLen; omega) (by omega) (by exact BA.out.size) ?_
               intro a6 c6 w6 ox hgx hax
               rw [Nat.zero_add, List.nil_append] at ox
               rw [ob_slice] at hgx hax
               have B6 : Hid (Below wi.heap.size wi w6) := (Below.drew BA.out).grown hgx BA.out.size (fun j hj => by have e' : wi.heap.size = j := Option.some.inj hj; omega)
               have O6 : Hid (w6.ownsRow wi.heap.size 35 7 (.slice a6 m c6) m (cellsR (S.take m))) := ox
               have s6 : VA.heap.size ≤ w6.heap.size := hgx.size
               clear ox hgx hax
               have ew0 := far6 B6.out e0
               have ew1 := far6 B6.out e1
               have ew2 := far6 B6.out e2
               have ew3 := far6 B6.out e3
               have ew4 := far6 B6.out e4
               have ew5 := far6 B6.out e5
               have ew6 := far6 B6.out e6
               obtain ⟨w6n, hw6n⟩ : ∃ Q, w6.alloc (.cells #[.int .i64 vi, .int .i64 va, .int .i64 vb, .string vt, .int .i64 vp, .int .i64 vq, .string vz] 35) = Q := ⟨_, rfl⟩
               have hbn : Below w6.heap.size w6 w6n := by rw [← hw6n]; exact (Below.refl _ _).alloc (Nat.le_refl _) _
               have XN : Hid (Box w6n w6.heap.size 35 #[.int .i64 vi, .int .i64 va, .int .i64 vb, .string vt, .int .i64 vp, .int .i64 vq, .string vz]) := by unfold Hid; rw [← hw6n]; exact Box.new _ _ _
               have BN : Hid (Below wi.heap.size wi w6n) := B6.out.trans (hbn.mono B6.out.size)
               have ON : Hid (w6n.ownsRow wi.heap.size 35 7 (.slice a6 m c6) m (cellsR (S.take m))) := own_below O6.out hbn
               have sN : w6.heap.size < w6n.heap.size := XN.out.lt
               clear hbn)
            | (refine step_app_any _ (by rfl) (.tmp 59) (.tmp 62) 46 (by rfl) wi.heap.size 35 i0 (.agg #[.int .i64 0, .int .i64 0, .int .i64 0, .string ⟨#[]⟩, .int .i64 0, .int .i64 0, .string ⟨#[]⟩]) 7 72 Try.underlying46 hi0.out hz0.out hz1.out hz2.out rfl (by omega) (.slice (some ⟨wi.heap.size, 0, none⟩) 0 0) 0 [] (by rfl) (by exact emp_own EAB.out (by omega)) (some ⟨g, 0, none⟩) m m (cellsR (S.take m)) (by rfl) (fun ex => by cases ex) TL.out (fun ad ex => by cases ex; exact SR1.out _ (Below.drew BAB.out)) (oneR (S.take m)) (by unfold maxLen; omega) (by omega) (by exact BAB.out.size) ?_
               intro a6 c6 w6 ox hgx hax
               rw [Nat.zero_add, List.nil_append] at ox
               rw [ob_slice] at hgx hax
               have B6 : Hid (Below wi.heap.size wi w6) := (Below.drew BAB.out).grown hgx BAB.out.size (fun j hj => by have e' : wi.heap.size = j := Option.some.inj hj; omega)
               have O6 : Hid (w6.ownsRow wi.heap.size 35 7 (.slice a6 m c6) m (cellsR (S.take m))) := ox
               have s6 : VAB.heap.size ≤ w6.heap.size := hgx.size
               have X6 : Hid (Box w6 VA.heap.size 35 #[.int .i64 vi, .int .i64 va, .int .i64 vb, .string vt, .int .i64 vp, .int .i64 vq, .string vz]) := Box.grown (show Box VAB.drew VA.heap.size 35 #[.int .i64 vi, .int .i64 va, .int .i64 vb, .string vt, .int .i64 vp, .int .i64 vq, .string vz] from XAB.out) hgx (fun e => by have e' : wi.heap.size = VA.heap.size := Option.some.inj e; omega)
               clear ox hgx hax)
            | (refine step_app_any _ (by rfl) (.tmp 59) (.tmp 62) 46 (by rfl) wi.heap.size 35 i0 (.agg #[.int .i64 0, .int .i64 0, .int .i64 0, .string ⟨#[]⟩, .int .i64 0, .int .i64 0, .string ⟨#[]⟩]) 7 72 Try.underlying46 hi0.out hz0.out hz1.out hz2.out rfl (by omega) (.slice (some ⟨VB.heap.size, 0, none⟩) 0 0) 0 [] (by rfl) (by exact emp_own EBA.out (by omega)) (some ⟨g, 0, none⟩) m m (cellsR (S.take m)) (by rfl) (fun ex => by cases ex) TL.out (fun ad ex => by cases ex; exact SR1.out _ (Below.drew BBA.out)) (oneR (S.take m)) (by unfold maxLen; omega) (by omega) (by exact BBA.out.size) ?_
               intro a6 c6 w6 ox hgx hax
               rw [Nat.zero_add, List.nil_append] at ox
               rw [ob_slice] at hgx hax
               have B6 : Hid (Below wi.heap.size wi w6) := (Below.drew BBA.out).grown hgx BBA.out.size (fun j hj => by have e' : VB.heap.size = j := Option.some.inj hj; omega)
               have O6 : Hid (w6.ownsRow wi.heap.size 35 7 (.slice a6 m c6) m (cellsR (S.take m))) := ox
               have s6 : VBA.heap.size ≤ w6.heap.size := hgx.size
               have X6 : Hid (Box w6 wi.heap.size 35 #[.int .i64 vi, .int .i64 va, .int .i64 vb, .string vt, .int .i64 vp, .int .i64 vq, .string vz]) := Box.grown (show Box VBA.drew wi.heap.size 35 #[.int .i64 vi, .int .i64 va, .int .i64 vb, .string vt, .int .i64 vp, .int .i64 vq, .string vz] from XBA.out) hgx (fun e => by have e' : VB.heap.size = wi.heap.size := Option.some.inj e; omega)
               clear ox hgx hax)
            | (refine step_app_any _ (by rfl) (.tmp 63) (.tmp 68) 46 (by rfl) wi.heap.size 35 i0 (.agg #[.int .i64 0, .int .i64 0, .int .i64 0, .string ⟨#[]⟩, .int .i64 0, .int .i64 0, .string ⟨#[]⟩]) 7 72 Try.underlying46 hi0.out hz0.out hz1.out hz2.out rfl (by omega) (.slice a6 m c6) m (cellsR (S.take m)) (by rfl) (by exact O6.out) (some ⟨VA.heap.size, 0, none⟩) 1 1 (cR ⟨vi, va, vb, vt, vp, vq, vz⟩) (by rfl) (fun ex => by cases ex) rfl (fun ad ex => by cases ex; exact boxSrc X6.out) (fun u hu => oneR [⟨vi, va, vb, vt, vp, vq, vz⟩] u (by rw [cellsR_one]; exact hu)) (by unfold maxLen; omega) (by omega) (by exact B6.out.size) ?_
               intro a7 c7 w7 ox hgx hax
               rw [ob_slice] at hgx hax
               have B7 : Hid (Below wi.heap.size wi w7) := B6.out.grown hgx B6.out.size (fun j hj => by obtain ⟨aa, cc, ee, hh⟩ := own_slc O6.out; simp only [Value.slice.injEq] at ee; rw [ee.1] at hj; exact (hh j hj).1)
               have O7 : Hid (w7.ownsRow wi.heap.size 35 7 (.slice a7 (m + 1) c7) (m + 1) (cellsR (S.take m) ++ cR ⟨vi, va, vb, vt, vp, vq, vz⟩)) := ox
               have s7 : w6.heap.size ≤ w7.heap.size := hgx.size
               clear ox hgx hax)
            | (refine step_app_any _ (by rfl) (.tmp 63) (.tmp 68) 46 (by rfl) wi.heap.size 35 i0 (.agg #[.int .i64 0, .int .i64 0, .int .i64 0, .string ⟨#[]⟩, .int .i64 0, .int .i64 0, .string ⟨#[]⟩]) 7 72 Try.underlying46 hi0.out hz0.out hz1.out hz2.out rfl (by omega) (.slice a6 m c6) m (cellsR (S.take m)) (by rfl) (by exact O6.out) (some ⟨wi.heap.size, 0, none⟩) 1 1 (cR ⟨vi, va, vb, vt, vp, vq, vz⟩) (by rfl) (fun ex => by cases ex) rfl (fun ad ex => by cases ex; exact boxSrc X6.out) (fun u hu => oneR [⟨vi, va, vb, vt, vp, vq, vz⟩] u (by rw [cellsR_one]; exact hu)) (by unfold maxLen; omega) (by omega) (by exact B6.out.size) ?_
               intro a7 c7 w7 ox hgx hax
               rw [ob_slice] at hgx hax
               have B7 : Hid (Below wi.heap.size wi w7) := B6.out.grown hgx B6.out.size (fun j hj => by obtain ⟨aa, cc, ee, hh⟩ := own_slc O6.out; simp only [Value.slice.injEq] at ee; rw [ee.1] at hj; exact (hh j hj).1)
               have O7 : Hid (w7.ownsRow wi.heap.size 35 7 (.slice a7 (m + 1) c7) (m + 1) (cellsR (S.take m) ++ cR ⟨vi, va, vb, vt, vp, vq, vz⟩)) := ox
               have s7 : w6.heap.size ≤ w7.heap.size := hgx.size
               clear ox hgx hax)
            | (refine step_app_any _ (by rfl) (.tmp 63) (.tmp 68) 46 (by rfl) wi.heap.size 35 i0 (.agg #[.int .i64 0, .int .i64 0, .int .i64 0, .string ⟨#[]⟩, .int .i64 0, .int .i64 0, .string ⟨#[]⟩]) 7 72 Try.underlying46 hi0.out hz0.out hz1.out hz2.out rfl (by omega) (.slice a6 m c6) m (cellsR (S.take m)) (by rfl) (by exact ON.out) (some ⟨w6.heap.size, 0, none⟩) 1 1 (cR ⟨vi, va, vb, vt, vp, vq, vz⟩) (by rfl) (fun ex => by cases ex) rfl (fun ad ex => by cases ex; exact boxSrc XN.out) (fun u hu => oneR [⟨vi, va, vb, vt, vp, vq, vz⟩] u (by rw [cellsR_one]; exact hu)) (by unfold maxLen; omega) (by omega) (by exact BN.out.size) ?_
               intro a7 c7 w7 ox hgx hax
               rw [ob_slice] at hgx hax
               have B7 : Hid (Below wi.heap.size wi w7) := BN.out.grown hgx BN.out.size (fun j hj => by obtain ⟨aa, cc, ee, hh⟩ := own_slc ON.out; simp only [Value.slice.injEq] at ee; rw [ee.1] at hj; exact (hh j hj).1)
               have O7 : Hid (w7.ownsRow wi.heap.size 35 7 (.slice a7 (m + 1) c7) (m + 1) (cellsR (S.take m) ++ cR ⟨vi, va, vb, vt, vp, vq, vz⟩)) := ox
               have s7 : w6n.heap.size ≤ w7.heap.size := hgx.size
               clear ox hgx hax)
            | (refine step_app_any _ (by rfl) (.tmp 69) (.tmp 72) 46 (by rfl) wi.heap.size 35 i0 (.agg #[.int .i64 0, .int .i64 0, .int .i64 0, .string ⟨#[]⟩, .int .i64 0, .int .i64 0, .string ⟨#[]⟩]) 7 72 Try.underlying46 hi0.out hz0.out hz1.out hz2.out rfl (by omega) (.slice a7 (m + 1) c7) (m + 1) (cellsR (S.take m) ++ cR ⟨vi, va, vb, vt, vp, vq, vz⟩) (by rfl) (by exact O7.out) (some ⟨g, 0, none⟩) 0 _ [] (by rfl) (fun ex => by cases ex) rfl (fun ad ex j u hj => by cases hj) (fun u hu => by cases hu) (by unfold maxLen; omega) (by omega) (by exact B7.out.size) ?_
               intro a8 c8 w8 ox hgx hax
               rw [ob_slice] at hgx hax
               have B8 : Hid (Below wi.heap.size wi w8) := B7.out.grown hgx B7.out.size (fun j hj => by obtain ⟨aa, cc, ee, hh⟩ := own_slc O7.out; simp only [Value.slice.injEq] at ee; rw [ee.1] at hj; exact (hh j hj).1)
               have O8 : Hid (w8.ownsRow wi.heap.size 35 7 (.slice a8 (m + 1 + 0) c8) (m + 1 + 0) (cellsR (S.take m) ++ cR ⟨vi, va, vb, vt, vp, vq, vz⟩ ++ [])) := ox
               clear ox hgx hax)
            )
          all_goals
            have LL : m + 1 + 0 = k + 1 := by omega
            have O9 : Hid (w8.ownsRow w.heap.size 35 7 (.slice a8 (k + 1) c8) (k + 1) (cellsR (sortR (ordF c d) (vs.take (k + 1))))) := by
              unfold Hid
              rw [HSS.out]
              unfold insR
              rw [hSl, HK.out, cellsR_append, ← LL, show cellsR (⟨vi, va, vb, vt, vp, vq, vz⟩ :: S.drop m) = cR ⟨vi, va, vb, vt, vp, vq, vz⟩ ++ [] by rw [List.drop_eq_nil_of_le (by omega)]; rfl]
              have := World.ownsRow.mono O8.out Bi.out.size
              rw [List.append_assoc] at this
              exact this
            have B9 : Hid (Below w.heap.size w w8) := Bi.out.trans (B8.out.mono Bi.out.size)
            have A9 : Hid (a8.isSome = true) := by
              rcases own_form O9.out with ⟨_, h0⟩ | ⟨gg, cc, h1, _⟩
              · omega
              · simp only [Value.slice.injEq] at h1; rw [h1.1]; rfl
            clear O8 B8
            go_wp2
            go_roundw
            case rel => exact ⟨k + 1, a8, c8, by omega, by go_num, by first | rfl | rw [LL], O9, A9, B9⟩
            case measure => simp [intOf]; omega
        · have HNC : Hid (¬ c1 = m) := hcc
          obtain ⟨VA, hVA⟩ : ∃ W, wi.alloc (.cells #[] 35) = W := ⟨_, rfl⟩
          have bVA : Below wi.heap.size wi VA := by rw [← hVA]; exact (Below.refl _ _).alloc (Nat.le_refl _) _
          have EA : Hid (Box VA wi.heap.size 35 #[]) := by unfold Hid; rw [← hVA]; exact Box.new _ _ _
          have lA : wi.heap.size < VA.heap.size := EA.out.lt
          obtain ⟨VAB, hVAB⟩ : ∃ W, VA.alloc (.cells #[.int .i64 vi, .int .i64 va, .int .i64 vb, .string vt, .int .i64 vp, .int .i64 vq, .string vz] 35) = W := ⟨_, rfl⟩
          have bVAB : Below VA.heap.size VA VAB := by rw [← hVAB]; exact (Below.refl _ _).alloc (Nat.le_refl _) _
          have EAB : Hid (Box VAB wi.heap.size 35 #[]) := EA.out.belowS bVAB
          have XAB : Hid (Box VAB VA.heap.size 35 #[.int .i64 vi, .int .i64 va, .int .i64 vb, .string vt, .int .i64 vp, .int .i64 vq, .string vz]) := by unfold Hid; rw [← hVAB]; exact Box.new _ _ _
          have lAB : VA.heap.size < VAB.heap.size := XAB.out.lt
          obtain ⟨VB, hVB⟩ : ∃ W, wi.alloc (.cells #[.int .i64 vi, .int .i64 va, .int .i64 vb, .string vt, .int .i64 vp, .int .i64 vq, .string vz] 35) = W := ⟨_, rfl⟩
          have bVB : Below wi.heap.size wi VB := by rw [← hVB]; exact (Below.refl _ _).alloc (Nat.le_refl _) _
          have XB : Hid (Box VB wi.heap.size 35 #[.int .i64 vi, .int .i64 va, .int .i64 vb, .string vt, .int .i64 vp, .int .i64 vq, .string vz]) := by unfold Hid; rw [← hVB]; exact Box.new _ _ _
          have lB : wi.heap.size < VB.heap.size := XB.out.lt
          obtain ⟨VBA, hVBA⟩ : ∃ W, VB.alloc (.cells #[] 35) = W := ⟨_, rfl⟩
          have bVBA : Below VB.heap.size VB VBA := by rw [← hVBA]; exact (Below.refl _ _).alloc (Nat.le_refl _) _
          have EBA : Hid (Box VBA VB.heap.size 35 #[]) := by unfold Hid; rw [← hVBA]; exact Box.new _ _ _
          have XBA : Hid (Box VBA wi.heap.size 35 #[.int .i64 vi, .int .i64 va, .int .i64 vb, .string vt, .int .i64 vp, .int .i64 vq, .string vz]) := XB.out.belowS bVBA
          have lBA : VB.heap.size < VBA.heap.size := EBA.out.lt
          have BA : Hid (Below wi.heap.size wi VA) := bVA
          have BAB : Hid (Below wi.heap.size wi VAB) := bVA.trans (bVAB.mono bVA.size)
          have BBA : Hid (Below wi.heap.size wi VBA) := bVB.trans (bVBA.mono bVB.size)
          clear bVA bVAB bVB bVBA
          have ea0 := far6 BA.out e0
          have ea1 := far6 BA.out e1
          have ea2 := far6 BA.out e2
          have ea3 := far6 BA.out e3
          have ea4 := far6 BA.out e4
          have ea5 := far6 BA.out e5
          have ea6 := far6 BA.out e6
          have SRC : Hid (∀ W, Below wi.heap.size wi W → ∀ q j u, ((cellsR S).drop (q * 7))[j]? = some u → W.cell? ((⟨g, q * 7, none⟩ : Addr).add j) = some u) := fun W hW q => srcOwn (own_below Oi.out hW) q
          have SR1 : Hid (∀ W, Below wi.heap.size wi W → ∀ j u, (cellsR (S.take m))[j]? = some u → W.cell? ((⟨g, 0, none⟩ : Addr).add j) = some u) := fun W hW j u hj => by
            have := SRC.out W hW 0 j u (by rw [Nat.zero_mul, List.drop_zero, ← List.take_append_drop m S, cellsR_append, List.getElem?_append_left (List.getElem?_eq_some_iff.1 hj).1]; exact hj)
            simpa using this
          have SR2 : Hid (∀ W, Below wi.heap.size wi W → ∀ j u, (cellsR (S.drop m))[j]? = some u → W.cell? ((⟨g, m * 7, none⟩ : Addr).add j) = some u) := fun W hW j u hj => SRC.out W hW m j u (by rw [cellsR_drop S m (by omega)]; exact hj)
          have tl : (S.take m).length = m := by rw [List.length_take]; omega
          have TL : Hid ((cellsR (S.take m)).length = m * 7) := by unfold Hid; rw [cellsR_len, tl]
          have DL : Hid ((cellsR (S.drop m)).length = (k - m) * 7) := by unfold Hid; rw [cellsR_len, List.length_drop, hSl]
          clear tl
          go_wp2_with fail
          go_region_law (first
            | (refine step_app_any _ (by rfl) (.tmp 59) (.tmp 62) 46 (by rfl) wi.heap.size 35 i0 (.agg #[.int .i64 0, .int .i64 0, .int .i64 0, .string ⟨#[]⟩, .int .i64 0, .int .i64 0, .string ⟨#[]⟩]) 7 72 Try.underlying46 hi0.out hz0.out hz1.out hz2.out rfl (by omega) (.slice (some ⟨wi.heap.size, 0, none⟩) 0 0) 0 [] (by rfl) (by exact emp_own EA.out (by omega)) (some ⟨g, 0, none⟩) m c1 (cellsR (S.take m)) (by rfl) (fun ex => by cases ex) TL.out (fun ad ex => by cases ex; exact SR1.out _ (Below.drew BA.out)) (oneR (S.take m)) (by unfold maxLen; omega) (by omega) (by exact BA.out.size) ?_
               intro a6 c6 w6 ox hgx hax
               rw [Nat.zero_add, List.nil_append] at ox
               rw [ob_slice] at hgx hax
               have B6 : Hid (Below wi.heap.size wi w6) := (Below.drew BA.out).grown hgx BA.out.size (fun j hj => by have e' : wi.heap.size = j := Option.some.inj hj; omega)
               have O6 : Hid (w6.ownsRow wi.heap.size 35 7 (.slice a6 m c6) m (cellsR (S.take m))) := ox
               have s6 : VA.heap.size ≤ w6.heap.size := hgx.size
               clear ox hgx hax
               have ew0 := far6 B6.out e0
               have ew1 := far6 B6.out e1
               have ew2 := far6 B6.out e2
               have ew3 := far6 B6.out e3
               have ew4 := far6 B6.out e4
               have ew5 := far6 B6.out e5
               have ew6 := far6 B6.out e6
               obtain ⟨w6n, hw6n⟩ : ∃ Q, w6.alloc (.cells #[.int .i64 vi, .int .i64 va, .int .i64 vb, .string vt, .int .i64 vp, .int .i64 vq, .string vz] 35) = Q := ⟨_, rfl⟩
               have hbn : Below w6.heap.size w6 w6n := by rw [← hw6n]; exact (Below.refl _ _).alloc (Nat.le_refl _) _
               have XN : Hid (Box w6n w6.heap.size 35 #[.int .i64 vi, .int .i64 va, .int .i64 vb, .string vt, .int .i64 vp, .int .i64 vq, .string vz]) := by unfold Hid; rw [← hw6n]; exact Box.new _ _ _
               have BN : Hid (Below wi.heap.size wi w6n) := B6.out.trans (hbn.mono B6.out.size)
               have ON : Hid (w6n.ownsRow wi.heap.size 35 7 (.slice a6 m c6) m (cellsR (S.take m))) := own_below O6.out hbn
               have sN : w6.heap.size < w6n.heap.size := XN.out.lt
               clear hbn)
            | (refine step_app_any _ (by rfl) (.tmp 59) (.tmp 62) 46 (by rfl) wi.heap.size 35 i0 (.agg #[.int .i64 0, .int .i64 0, .int .i64 0, .string ⟨#[]⟩, .int .i64 0, .int .i64 0, .string ⟨#[]⟩]) 7 72 Try.underlying46 hi0.out hz0.out hz1.out hz2.out rfl (by omega) (.slice (some ⟨wi.heap.size, 0, none⟩) 0 0) 0 [] (by rfl) (by exact emp_own EAB.out (by omega)) (some ⟨g, 0, none⟩) m c1 (cellsR (S.take m)) (by rfl) (fun ex => by cases ex) TL.out (fun ad ex => by cases ex; exact SR1.out _ (Below.drew BAB.out)) (oneR (S.take m)) (by unfold maxLen; omega) (by omega) (by exact BAB.out.size) ?_
               intro a6 c6 w6 ox hgx hax
               rw [Nat.zero_add, List.nil_append] at ox
               rw [ob_slice] at hgx hax
               have B6 : Hid (Below wi.heap.size wi w6) := (Below.drew BAB.out).grown hgx BAB.out.size (fun j hj => by have e' : wi.heap.size = j := Option.some.inj hj; omega)
               have O6 : Hid (w6.ownsRow wi.heap.size 35 7 (.slice a6 m c6) m (cellsR (S.take m))) := ox
               have s6 : VAB.heap.size ≤ w6.heap.size := hgx.size
               have X6 : Hid (Box w6 VA.heap.size 35 #[.int .i64 vi, .int .i64 va, .int .i64 vb, .string vt, .int .i64 vp, .int .i64 vq, .string vz]) := Box.grown (show Box VAB.drew VA.heap.size 35 #[.int .i64 vi, .int .i64 va, .int .i64 vb, .string vt, .int .i64 vp, .int .i64 vq, .string vz] from XAB.out) hgx (fun e => by have e' : wi.heap.size = VA.heap.size := Option.some.inj e; omega)
               clear ox hgx hax)
            | (refine step_app_any _ (by rfl) (.tmp 59) (.tmp 62) 46 (by rfl) wi.heap.size 35 i0 (.agg #[.int .i64 0, .int .i64 0, .int .i64 0, .string ⟨#[]⟩, .int .i64 0, .int .i64 0, .string ⟨#[]⟩]) 7 72 Try.underlying46 hi0.out hz0.out hz1.out hz2.out rfl (by omega) (.slice (some ⟨VB.heap.size, 0, none⟩) 0 0) 0 [] (by rfl) (by exact emp_own EBA.out (by omega)) (some ⟨g, 0, none⟩) m c1 (cellsR (S.take m)) (by rfl) (fun ex => by cases ex) TL.out (fun ad ex => by cases ex; exact SR1.out _ (Below.drew BBA.out)) (oneR (S.take m)) (by unfold maxLen; omega) (by omega) (by exact BBA.out.size) ?_
               intro a6 c6 w6 ox hgx hax
               rw [Nat.zero_add, List.nil_append] at ox
               rw [ob_slice] at hgx hax
               have B6 : Hid (Below wi.heap.size wi w6) := (Below.drew BBA.out).grown hgx BBA.out.size (fun j hj => by have e' : VB.heap.size = j := Option.some.inj hj; omega)
               have O6 : Hid (w6.ownsRow wi.heap.size 35 7 (.slice a6 m c6) m (cellsR (S.take m))) := ox
               have s6 : VBA.heap.size ≤ w6.heap.size := hgx.size
               have X6 : Hid (Box w6 wi.heap.size 35 #[.int .i64 vi, .int .i64 va, .int .i64 vb, .string vt, .int .i64 vp, .int .i64 vq, .string vz]) := Box.grown (show Box VBA.drew wi.heap.size 35 #[.int .i64 vi, .int .i64 va, .int .i64 vb, .string vt, .int .i64 vp, .int .i64 vq, .string vz] from XBA.out) hgx (fun e => by have e' : VB.heap.size = wi.heap.size := Option.some.inj e; omega)
               clear ox hgx hax)
            | (refine step_app_any _ (by rfl) (.tmp 63) (.tmp 68) 46 (by rfl) wi.heap.size 35 i0 (.agg #[.int .i64 0, .int .i64 0, .int .i64 0, .string ⟨#[]⟩, .int .i64 0, .int .i64 0, .string ⟨#[]⟩]) 7 72 Try.underlying46 hi0.out hz0.out hz1.out hz2.out rfl (by omega) (.slice a6 m c6) m (cellsR (S.take m)) (by rfl) (by exact O6.out) (some ⟨VA.heap.size, 0, none⟩) 1 1 (cR ⟨vi, va, vb, vt, vp, vq, vz⟩) (by rfl) (fun ex => by cases ex) rfl (fun ad ex => by cases ex; exact boxSrc X6.out) (fun u hu => oneR [⟨vi, va, vb, vt, vp, vq, vz⟩] u (by rw [cellsR_one]; exact hu)) (by unfold maxLen; omega) (by omega) (by exact B6.out.size) ?_
               intro a7 c7 w7 ox hgx hax
               rw [ob_slice] at hgx hax
               have B7 : Hid (Below wi.heap.size wi w7) := B6.out.grown hgx B6.out.size (fun j hj => by obtain ⟨aa, cc, ee, hh⟩ := own_slc O6.out; simp only [Value.slice.injEq] at ee; rw [ee.1] at hj; exact (hh j hj).1)
               have O7 : Hid (w7.ownsRow wi.heap.size 35 7 (.slice a7 (m + 1) c7) (m + 1) (cellsR (S.take m) ++ cR ⟨vi, va, vb, vt, vp, vq, vz⟩)) := ox
               have s7 : w6.heap.size ≤ w7.heap.size := hgx.size
               clear ox hgx hax)
            | (refine step_app_any _ (by rfl) (.tmp 63) (.tmp 68) 46 (by rfl) wi.heap.size 35 i0 (.agg #[.int .i64 0, .int .i64 0, .int .i64 0, .string ⟨#[]⟩, .int .i64 0, .int .i64 0, .string ⟨#[]⟩]) 7 72 Try.underlying46 hi0.out hz0.out hz1.out hz2.out rfl (by omega) (.slice a6 m c6) m (cellsR (S.take m)) (by rfl) (by exact O6.out) (some ⟨wi.heap.size, 0, none⟩) 1 1 (cR ⟨vi, va, vb, vt, vp, vq, vz⟩) (by rfl) (fun ex => by cases ex) rfl (fun ad ex => by cases ex; exact boxSrc X6.out) (fun u hu => oneR [⟨vi, va, vb, vt, vp, vq, vz⟩] u (by rw [cellsR_one]; exact hu)) (by unfold maxLen; omega) (by omega) (by exact B6.out.size) ?_
               intro a7 c7 w7 ox hgx hax
               rw [ob_slice] at hgx hax
               have B7 : Hid (Below wi.heap.size wi w7) := B6.out.grown hgx B6.out.size (fun j hj => by obtain ⟨aa, cc, ee, hh⟩ := own_slc O6.out; simp only [Value.slice.injEq] at ee; rw [ee.1] at hj; exact (hh j hj).1)
               have O7 : Hid (w7.ownsRow wi.heap.size 35 7 (.slice a7 (m + 1) c7) (m + 1) (cellsR (S.take m) ++ cR ⟨vi, va, vb, vt, vp, vq, vz⟩)) := ox
               have s7 : w6.heap.size ≤ w7.heap.size := hgx.size
               clear ox hgx hax)
            | (refine step_app_any _ (by rfl) (.tmp 63) (.tmp 68) 46 (by rfl) wi.heap.size 35 i0 (.agg #[.int .i64 0, .int .i64 0, .int .i64 0, .string ⟨#[]⟩, .int .i64 0, .int .i64 0, .string ⟨#[]⟩]) 7 72 Try.underlying46 hi0.out hz0.out hz1.out hz2.out rfl (by omega) (.slice a6 m c6) m (cellsR (S.take m)) (by rfl) (by exact ON.out) (some ⟨w6.heap.size, 0, none⟩) 1 1 (cR ⟨vi, va, vb, vt, vp, vq, vz⟩) (by rfl) (fun ex => by cases ex) rfl (fun ad ex => by cases ex; exact boxSrc XN.out) (fun u hu => oneR [⟨vi, va, vb, vt, vp, vq, vz⟩] u (by rw [cellsR_one]; exact hu)) (by unfold maxLen; omega) (by omega) (by exact BN.out.size) ?_
               intro a7 c7 w7 ox hgx hax
               rw [ob_slice] at hgx hax
               have B7 : Hid (Below wi.heap.size wi w7) := BN.out.grown hgx BN.out.size (fun j hj => by obtain ⟨aa, cc, ee, hh⟩ := own_slc ON.out; simp only [Value.slice.injEq] at ee; rw [ee.1] at hj; exact (hh j hj).1)
               have O7 : Hid (w7.ownsRow wi.heap.size 35 7 (.slice a7 (m + 1) c7) (m + 1) (cellsR (S.take m) ++ cR ⟨vi, va, vb, vt, vp, vq, vz⟩)) := ox
               have s7 : w6n.heap.size ≤ w7.heap.size := hgx.size
               clear ox hgx hax)
            | (refine step_app_any _ (by rfl) (.tmp 69) (.tmp 72) 46 (by rfl) wi.heap.size 35 i0 (.agg #[.int .i64 0, .int .i64 0, .int .i64 0, .string ⟨#[]⟩, .int .i64 0, .int .i64 0, .string ⟨#[]⟩]) 7 72 Try.underlying46 hi0.out hz0.out hz1.out hz2.out rfl (by omega) (.slice a7 (m + 1) c7) (m + 1) (cellsR (S.take m) ++ cR ⟨vi, va, vb, vt, vp, vq, vz⟩) (by rfl) (by exact O7.out) (some ⟨g, m * 7, none⟩) (k - m) _ (cellsR (S.drop m)) (by rfl) (fun ex => by cases ex) DL.out (fun ad ex => by cases ex; exact SR2.out _ B7.out) (oneR (S.drop m)) (by unfold maxLen; omega) (by omega) (by exact B7.out.size) ?_
               intro a8 c8 w8 ox hgx hax
               rw [ob_slice] at hgx hax
               have B8 : Hid (Below wi.heap.size wi w8) := B7.out.grown hgx B7.out.size (fun j hj => by obtain ⟨aa, cc, ee, hh⟩ := own_slc O7.out; simp only [Value.slice.injEq] at ee; rw [ee.1] at hj; exact (hh j hj).1)
               have O8 : Hid (w8.ownsRow wi.heap.size 35 7 (.slice a8 (m + 1 + (k - m)) c8) (m + 1 + (k - m)) (cellsR (S.take m) ++ cR ⟨vi, va, vb, vt, vp, vq, vz⟩ ++ (cellsR (S.drop m)))) := ox
               clear ox hgx hax)
            )
          all_goals
            have LL : m + 1 + (k - m) = k + 1 := by omega
            have O9 : Hid (w8.ownsRow w.heap.size 35 7 (.slice a8 (k + 1) c8) (k + 1) (cellsR (sortR (ordF c d) (vs.take (k + 1))))) := by
              unfold Hid
              rw [HSS.out]
              unfold insR
              rw [hSl, HK.out, cellsR_append, ← LL, show cellsR (⟨vi, va, vb, vt, vp, vq, vz⟩ :: S.drop m) = cR ⟨vi, va, vb, vt, vp, vq, vz⟩ ++ (cellsR (S.drop m)) by rfl]
              have := World.ownsRow.mono O8.out Bi.out.size
              rw [List.append_assoc] at this
              exact this
            have B9 : Hid (Below w.heap.size w w8) := Bi.out.trans (B8.out.mono Bi.out.size)
            have A9 : Hid (a8.isSome = true) := by
              rcases own_form O9.out with ⟨_, h0⟩ | ⟨gg, cc, h1, _⟩
              · omega
              · simp only [Value.slice.injEq] at h1; rw [h1.1]; rfl
            clear O8 B8
            go_wp2
            go_roundw
            case rel => exact ⟨k + 1, a8, c8, by omega, by go_num, by first | rfl | rw [LL], O9, A9, B9⟩
            case measure => simp [intOf]; omega
    · have e : k = n := by omega
      subst e
      rw [List.take_of_length_le (by omega)] at OW
      go_wp2
      go_ret
      exact ⟨⟨_, _, rfl, OW.out⟩, B.out⟩

end Go.Proofs.Ytlapmidiakaimaa
