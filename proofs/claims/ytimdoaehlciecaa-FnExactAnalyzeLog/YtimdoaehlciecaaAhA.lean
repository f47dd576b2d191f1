/-
  l08Analyze of the specification, cut into parts: what each part is to show.
-/
import Derived.Test.YtimdoaehlciecaaAi
import Derived.Test.YtimdoaehlciecaaRz
import Derived.Deep.RegionHeld3
import Derived.Deep.QuietTactic
import Derived.BigQuiet
import Derived.Deep.RegionLaw
import Derived.Deep.RegionWith
import Derived.Deep.AppendLies
import Derived.Deep.RegionLawGrows
import Derived.Deep.CutBlock
import Derived.Deep.CutRange
namespace Go.Proofs.Ytimdoaehlciecaa
open Go Go.RowKit
attribute [local go_sem ↓] Go.wp_at_zero Go.wp_at_succ

set_option linter.unusedVariables false
set_option linter.unusedSimpArgs false
theorem step_app_any {P : Program} (w : World) {ops : Array Oper} {o : Oper} {a : Act} {K : Act → World → Prop} {Q : Exit → Act → World → Prop} {E : Prop} (hgd : o.guard = none) (s x : Operand) (t : TypeId)
    (ho : o.op = .call { callee := .builtin .append, args := #[s, x], argTypes := #[t, t] })
    (base : Nat) (e : TypeId) (i : TypeInfo) (z : Value) (size bytes : Nat) (ht : P.underlying t = some (.slice e)) (hi : P.info? e = some i) (hz : i.zero = some z)
    (hsize : i.size = size) (hby : i.bytes = bytes) (hzs : z.cells.size = size) (hsz : 0 < size)
    (v : Value) (n : Nat) (xs : List Value) (hs : a.eval s = v) (hown : w.ownsRow base e size v n xs)
    (ax : Option Addr) (m c : Nat) (news : List Value) (hx : a.eval x = .slice ax m c) (hnone : ax = none → m = 0 ∧ c = 0) (hl : news.length = m * size) (hnews : ∀ ad, ax = some ad → ∀ j u, news[j]? = some u → w.cell? (ad.add j) = some u) (h1 : ∀ u ∈ news, u.oneCell' = true)
    (h63 : n + m ≤ maxLen) (hbytes : (n + m) * bytes ≤ 140737488355328) (hbase : base ≤ w.heap.size)
    (h : ∀ a' c' w', w'.ownsRow base e size (.slice a' (n + m) c') (n + m) (xs ++ news) → w.grownBy w' v.ownBlock → (∀ g, ob a' = some g → v.ownBlock = some g ∨ g = w.heap.size) → K (a.put o.dst (.slice a' (n + m) c')) w') :
    if Region.wanted o (yielded ops a.tmps) = true then Oper.wp P o a w K Q else E := by
  have hw : Region.wanted o (yielded ops a.tmps) = true := by simp [Region.wanted, hgd]
  rw [if_pos hw]
  cases ax with
  | none =>
    obtain ⟨rfl, rfl⟩ := hnone rfl
    have hn : news = [] := List.eq_nil_of_length_eq_zero (by simpa using hl)
    subst hn
    obtain ⟨a', c', rfl, _⟩ := own_slc hown
    have hrun := run_append_owned_none (P := P) (w := w) base t o.type e i size ht hi _ n xs hown
    unfold Oper.wp execOp
    simp only [ho, resolve, invoke, builtin, Sem.run_bind, Sem.run_pure, Result.andThen_ok, List.map_toArray, List.map_cons, List.map_nil, hs, hx, hrun]
    exact h a' c' w (by simpa using hown) (World.grownBy.refl _ _) (fun g e => .inl (by rw [ob_slice]; exact e))
  | some ad =>
    obtain ⟨v', w', hr, hown', hgr, _, hblk⟩ := run_append_own_at (P := P) w base t o.type e i z size bytes ht hi hz hsize hby hzs hsz v n xs hown ad m c news hl (hnews ad rfl) h1 h63 hbytes hbase
    obtain ⟨a', c', rfl, _⟩ := own_slc hown'
    rw [ob_slice] at hblk
    unfold Oper.wp execOp
    simp only [ho, resolve, invoke, builtin, Sem.run_bind, Sem.run_pure, Result.andThen_ok, List.map_toArray, List.map_cons, List.map_nil, hs, hx, hr]
    exact h a' c' w' hown' hgr (fun g e => hblk.elim (fun k => .inl (k ▸ e)) (fun k => .inr (Option.some.inj (e.symm.trans k))))
theorem emp_own {w : World} {g base size : Nat} {t : TypeId} (h : Box w g t #[]) (hb : base ≤ g) : w.ownsRow base t size (.slice (some ⟨g, 0, none⟩) 0 0) 0 [] := by
  refine ⟨by simp, .inr ⟨g, 0, #[], rfl, hb, ?_, ?_⟩⟩
  all_goals first | exact h | simp
/-- What a part of a proof may use. -/
structure Keep1 (P : Prop) : Prop where
  out : P
set_option maxRecDepth 100000 in
set_option maxHeartbeats 60000000 in
noncomputable def c_specAn_1 : (P0 : Prop) ×' (P1 : Prop) ×' (Keep1 P0 → Keep1 P1 → ∀ (a : Option Addr) (n cap : Nat) (L : List DR) (w : World) (hr : RdQ w a n L) (hn : n ≤ 60) (hs : ∀ v ∈ L, v.b.size ≤ 1048576 ∧ v.a.size ≤ 1048576) (H : ∀ j, j < L.length → okLR (L.getD j zeroR) = true ∧ (L.getD j zeroR).l = (j : Int) + 1), Calls Try.prog 28 #[.slice a n cap] w fun e w' => AnsTo w (anR L) e w' ∧ Below w.heap.size w w') := by
  refine' ⟨_, _, fun KZP0 KZP1 => ?main⟩
  case main =>
    intro a n cap L w hr hn hs H
    have HOK : Hid (∀ j, j < L.length → okLR (L.getD j zeroR) = true ∧ (L.getD j zeroR).l = (j : Int) + 1) := H
    have HS : Hid (∀ v ∈ L, v.b.size ≤ 1048576 ∧ v.a.size ≤ 1048576) := hs
    have hl := hr.1
    have RL : Hid (RdQ w a n L) := hr
    obtain ⟨i0, hi0', hz0', hz1', hz2'⟩ := info_parts infoDk
    obtain ⟨j0, hj0', jz0', jz1', jz2'⟩ := info_parts infoTk
    have hi0 : Hid (_) := hi0'
    have hz0 : Hid (_) := hz0'
    have hz1 : Hid (_) := hz1'
    have hz2 : Hid (_) := hz2'
    have hj0 : Hid (_) := hj0'
    have jz0 : Hid (_) := jz0'
    have jz1 : Hid (_) := jz1'
    have jz2 : Hid (_) := jz2'
    clear hr H hs hi0' hz0' hz1' hz2' hj0' jz0' jz1' jz2'
    obtain ⟨V1, hV1⟩ : ∃ Q, w.alloc (.cells #[] 54) = Q := ⟨_, rfl⟩
    have b1 : Below w.heap.size w V1 := by rw [← hV1]; exact (Below.refl _ _).alloc (Nat.le_refl _) _
    have E1 : Box V1 w.heap.size 54 #[] := by rw [← hV1]; exact Box.new _ _ _
    obtain ⟨V2, hV2⟩ : ∃ Q, V1.alloc (.cells #[] 57) = Q := ⟨_, rfl⟩
    have b2 : Below V1.heap.size V1 V2 := by rw [← hV2]; exact (Below.refl _ _).alloc (Nat.le_refl _) _
    have E2 : Box V2 V1.heap.size 57 #[] := by rw [← hV2]; exact Box.new _ _ _
    have OD : Hid (V2.ownsRow w.heap.size 54 2 (.slice (some ⟨w.heap.size, 0, none⟩) 0 0) 0 []) := emp_own (E1.belowS b2) (Nat.le_refl _)
    have OT : Hid (V2.ownsRow w.heap.size 57 2 (.slice (some ⟨V1.heap.size, 0, none⟩) 0 0) 0 []) := emp_own E2 b1.size
    have B2 : Hid (Below w.heap.size w V2) := b1.trans (b2.mono b1.size)
    clear b1 b2 E1 E2
    go_enter Try.func28, Try.ntmps28
    go_wp2
    go_loopw [4, 5, 6, 7] (fun d t fr i wr => ∃ (k q : Nat) (ad at' : Option Addr) (cd ct : Nat), k ≤ n ∧ q ≤ k ∧ i = .int .i64 (k : Int) ∧ fr = .int .i64 (q : Int) ∧ d = .slice ad (drS (anR (L.take q))).length cd ∧ t = .slice at' (txS (anR (L.take q))).length ct ∧ Hid (∀ j, q ≤ j → j < k → (L.getD j zeroR).k ≠ 6) ∧ Hid (wr.ownsRow w.heap.size 54 2 (.slice ad (drS (anR (L.take q))).length cd) (drS (anR (L.take q))).length (cellsD (toD (drS (anR (L.take q)))))) ∧ Hid (wr.ownsRow w.heap.size 57 2 (.slice at' (txS (anR (L.take q))).length ct) (txS (anR (L.take q))).length (cellsT (toT (txS (anR (L.take q)))))) ∧ Hid (ad.isSome = true ∧ at'.isSome = true) ∧ Hid (Below w.heap.size w wr)) (fun _ _ _ i _ => n - (intOf i).toNat)
    case atStart => exact ⟨0, 0, _, _, _, _, by omega, by omega, rfl, rfl, rfl, rfl, fun j h1 h2 => absurd h2 (by omega), OD, OT, ⟨rfl, rfl⟩, B2⟩
    case round => focus
      clear OD OT B2 hV1 hV2
      obtain ⟨k, q, ad, at', cd, ct, hk, hq, rfl, rfl, rfl, rfl, HN, HD, HT, HA, BW⟩ := hrel
      by_cases hlt : k < n
      · have RQ := RL.out.below BW.out
        obtain ⟨b, off, hla, hbl, hc⟩ := RQ.2 (by omega)
        have hbw : Hid (b < w.heap.size) := by
          obtain ⟨b', off', hla', hbl', _⟩ := RL.out.2 (by omega)
          rw [hla] at hla'
          simp only [Option.some.injEq, Addr.mk.injEq] at hla'
          unfold Hid
          omega
        subst hla
        obtain ⟨⟨ve, vl, vt, vk, vp, vn, vg, vz, vb, va⟩, hv⟩ : ∃ v, v = L.getD k zeroR := ⟨_, rfl⟩
        obtain ⟨e0, e1, e2, e3, e4, e5, e6, e7, e8, e9⟩ := RdQ.at hc hlt hv
        dsimp only at e0 e1 e2 e3 e4 e5 e6 e7 e8 e9
        have HV : Hid ((⟨ve, vl, vt, vk, vp, vn, vg, vz, vb, va⟩ : DR) = L.getD k zeroR) := hv
        have HO := HOK.out k (by omega)
        have hss := getD_of (d := zeroR) HS.out (show k < L.length by omega)
        rw [← hv] at HO hss
        have HO' : Hid (_ ∧ _) := HO
        have hva : va.size ≤ 1048576 := hss.2
        have g1 : (0 : Int) ≤ (k : Int) := by omega
        have g2 : (k : Int) < (n : Int) := by omega
        clear hc hv HO RQ hss e0 e1 e2 e4 e5 e6 e7 e8
        by_cases k6 : vk = 6
        case neg =>
          have c1 : (vk == 6) = false := by simpa using k6
          have HN2 : Hid (∀ j, q ≤ j → j < k + 1 → (L.getD j zeroR).k ≠ 6) := fun j h1 h2 => by
            by_cases e : j = k
            · subst e; rw [← HV.out]; exact k6
            · exact HN.out j h1 (by omega)
          clear HN HO' k6 hva
          go_wp2
          go_roundw
          case rel => exact ⟨k + 1, q, ad, at', cd, ct, by omega, by omega, by go_num, rfl, rfl, rfl, HN2, HD, HT, HA, BW⟩
          case measure => simp [intOf]; omega
        have c1 : (vk == 6) = true := by simpa using k6
        obtain ⟨ps, ts, er, r1, r2⟩ := ck_parts HO'.out.1 k6
        have AT : Hid (drS (anR (L.take (k + 1))) = ps ∧ txS (anR (L.take (k + 1))) = ts) := by
          unfold Hid
          rw [anR_take (show k < L.length by omega), ← HV.out]
          unfold anS
          rw [if_pos k6]
          exact anC_told er r1 r2
        have lps : ps.length ≤ 255 := by have := rg_len ps 0 7 _ r1 (by omega); omega
        have lts : ts.length ≤ 255 := by have := rg_len ts 1 60 _ r2 (by omega); omega
        have CK : Hid (Calls Try.prog 38 #[.string va] wr fun e w' => ∃ l0 l1 A0 A1 Lb, e = .returned (.tuple #[l0, l1, .bool (rc2 (numsT va)).isSome]) ∧ TwoL wr w' Lb l0 l1 A0 A1 ∧ ∀ x, rc2 (numsT va) = some x → x = (A0, A1)) := by
          have := c_lrc (numsT va) wr (nums_bytes va) (by rw [nums_len]; exact hva)
          rwa [nums_get] at this
        dsimp only at er
        clear HN HD HT HA HO' k6 hva r1 r2
        go_wp2_with fail
        refine CK.out.mono ?_
        rintro e w1 ⟨l0, l1, A0, A1, Lb, rfl, tw, hx⟩
        have hA := hx _ er
        simp only [Prod.mk.injEq] at hA
        obtain ⟨rfl, rfl⟩ := hA
        obtain ⟨a0, c0, h0⟩ := own_slice' tw.own0
        obtain ⟨a1, c1', h1⟩ := own_slice' tw.own1
        subst h0 h1
        have B1 : Hid (Below w.heap.size w w1) := BW.out.trans (tw.below.mono BW.out.size)
        have P1 : Hid (w1.ownsRow w.heap.size 66 2 (.slice a0 ps.length c0) ps.length (cells2 ps)) := tw.own0.down BW.out.size
        have P2 : Hid (w1.ownsRow w.heap.size 66 2 (.slice a1 ts.length c1') ts.length (cells2 ts)) := tw.own1.down BW.out.size
        have HRC : Hid (rc2 (numsT va) = some (ps, ts)) := er
        clear CK tw hx er e3 e9
        obtain ⟨V3, hV3⟩ : ∃ Q, w1.alloc (.cells #[] 54) = Q := ⟨_, rfl⟩
        have b3 : Below w1.heap.size w1 V3 := by rw [← hV3]; exact (Below.refl _ _).alloc (Nat.le_refl _) _
        have E3 : Box V3 w1.heap.size 54 #[] := by rw [← hV3]; exact Box.new _ _ _
        obtain ⟨V4, hV4⟩ : ∃ Q, V3.alloc (.cells #[] 57) = Q := ⟨_, rfl⟩
        have b4 : Below V3.heap.size V3 V4 := by rw [← hV4]; exact (Below.refl _ _).alloc (Nat.le_refl _) _
        have E4 : Box V4 V3.heap.size 57 #[] := by rw [← hV4]; exact Box.new _ _ _
        have bb : Below w1.heap.size w1 V4 := b3.trans (b4.mono b3.size)
        have OD4 : Hid (V4.ownsRow w.heap.size 54 2 (.slice (some ⟨w1.heap.size, 0, none⟩) 0 0) 0 []) := emp_own (E3.belowS b4) B1.out.size
        have OT4 : Hid (V4.ownsRow w.heap.size 57 2 (.slice (some ⟨V3.heap.size, 0, none⟩) 0 0) 0 []) := emp_own E4 (Nat.le_trans B1.out.size b3.size)
        have Q1 : Hid (V4.ownsRow w.heap.size 66 2 (.slice a0 ps.length c0) ps.length (cells2 ps)) := own_below P1.out bb
        have Q2 : Hid (V4.ownsRow w.heap.size 66 2 (.slice a1 ts.length c1') ts.length (cells2 ts)) := own_below P2.out bb
        have B4 : Hid (Below w.heap.size w V4) := B1.out.trans (bb.mono B1.out.size)
        clear P1 P2 B1 b3 b4 E3 E4 bb
        go_wp2
        go_loopw [4, 11] (fun d i wi => ∃ (j : Nat) (ad : Option Addr) (cd : Nat), j ≤ ps.length ∧ i = .int .i64 (j : Int) ∧ d = .slice ad (ps.take j).length cd ∧ Hid (wi.ownsRow w.heap.size 54 2 (.slice ad (ps.take j).length cd) (ps.take j).length (cellsD (toD (ps.take j)))) ∧ Hid (wi.ownsRow w.heap.size 66 2 (.slice a0 ps.length c0) ps.length (cells2 ps)) ∧ Hid (wi.ownsRow w.heap.size 66 2 (.slice a1 ts.length c1') ts.length (cells2 ts)) ∧ Hid (wi.ownsRow w.heap.size 57 2 (.slice (some ⟨V3.heap.size, 0, none⟩) 0 0) 0 []) ∧ Hid (Below w.heap.size w wi) ∧ Hid (ad.isSome = true)) (fun _ i _ => ps.length - (intOf i).toNat)
        case atStart => exact ⟨0, _, _, by omega, rfl, rfl, OD4, Q1, Q2, OT4, B4, rfl⟩
        case round => focus
          rename_i zz1 zz2 zz3 zz4 zz5 zz6 zz7 zz8 zz9 zz10 zz11 zz12 zz13 zz14 zz15 zz16 zz17 zz18 zz19 zz20 zz21 zz22 zz23 zz24 zz25 zz26 zz27 zz28 zz29 zz30
          revert n cap L w hn HOK HS hl i0 j0 hi0 hz0 hz1 hz2 hj0 jz0 jz1 jz2 V1 V2 zz1 zz2 zz3 zz4 u8 u9 u10 zz5 u12 u19 u20 u21 u22 u23 u24 u25 u26 u27 u28 u29 u30 u31 u32 u33 u34 u35 u36 u37 u38 u39 u40 u41 u42 u43 u44 zz6 zz7 zz8 zz9 zz10 zz11 zz12 zz13 zz14 zz15 zz16 zz17 zz18 zz19 zz20 zz21 zz22 zz23 zz24 zz25 u65 u66 u67 u68 u69 u70 u71 u72 u73 u74 u75 u76 u77 u78 u79 u80 u81 u82 u83 u84 k q ad at' cd ct hk hq BW hlt b off hbl hbw RL ve vl vt vk vp vn vg vz vb va HV g1 g2 c1 ps ts AT lps lts zz26 zz27 zz28 w1 Lb a0 c0 a1 c1' HRC V3 hV3 V4 hV4 OD4 OT4 Q1 Q2 B4 zz29 zz30 wr u4 u11 u45 u46 u47 u48 u49 u50 u51 u52 u53 u54 u55 u56 u57 u58 u59 u60 u61 u62 u63 u64 hrel
          exact KZP0.out
      · have e : k = n := by omega
        subst e
        clear hlt hk
        go_wp2_with fail
        go_loopw [4, 5, 13] (fun d t i wx => ∃ (p : Nat) (ad at' : Option Addr) (cd ct : Nat), q ≤ p ∧ p ≤ k ∧ i = .int .i64 (p : Int) ∧ d = .slice (ad) (drS (anR (L.take p))).length cd ∧ t = .slice at' (txS (anR (L.take p))).length ct ∧ Hid (wx.ownsRow w.heap.size 54 2 (.slice ad (drS (anR (L.take p))).length cd) (drS (anR (L.take p))).length (cellsD (toD (drS (anR (L.take p)))))) ∧ Hid (wx.ownsRow w.heap.size 57 2 (.slice at' (txS (anR (L.take p))).length ct) (txS (anR (L.take p))).length (cellsT (toT (txS (anR (L.take p)))))) ∧ Hid (ad.isSome = true) ∧ Hid (Below w.heap.size w wx)) (fun _ _ i _ => k - (intOf i).toNat)
        case atStart => exact ⟨q, ad, at', cd, ct, Nat.le_refl _, by omega, rfl, rfl, rfl, HD, HT, HA.out.1, BW⟩
        case round => focus
          rename_i zz1 zz2 zz3 zz4 zz5 zz6 zz7 zz8
          revert a cap L w HOK HS i0 j0 hi0 hz0 hz1 hz2 hj0 jz0 jz1 jz2 V1 V2 zz1 zz2 zz3 u8 u9 u10 u11 u12 u19 u20 u21 u22 u23 u24 u25 u26 u27 u28 u29 u30 u31 u32 u33 u34 u35 u36 u37 u38 u39 u40 u41 u42 u43 u44 u45 u46 u47 u48 u49 u50 u51 u52 u53 u54 u55 u56 u57 u58 u59 u60 u61 u62 u63 u64 u65 u66 u67 u68 u69 u70 u71 u72 u73 u74 u75 u76 u77 u78 u79 u80 u81 u82 u83 u84 k q ad at' cd ct hq HN HD HT HA BW hn hl RL zz4 zz5 zz6 zz7 zz8 wr u4 u5 u13 u14 u15 u16 u86 u87 u88 u89 u90 u91 u92 u93 u94 u95 u96 u97 u98 u99 u100 u101 u102 u103 u104 u105 u106 u107 u108 u109 u110 u111 u112 u113 u114 u115 u116 u117 u118 u119 u120 u121 u122 u123 u124 u125 u126 u127 u128 u129 u130 u131 u132 u133 u134 u135 u136 u137 u138 u139 u140 u141 u142 u143 u144 u145 u146 u147 u148 u149 u150 u151 u152 u153 u154 u155 u156 u157 u158 u159 u160 u161 u162 u163 u164 u165 u166 u167 u168 u169 u170 u171 u172 u173 u174 u175 u176 u177 u178 u179 u180 u181 u182 u183 u184 u185 u186 u187 u188 u189 u190 u191 u192 u193 u194 u195 u196 u197 u198 u199 u200 u201 u202 u203 u204 u205 u206 u207 u208 u209 u210 u211 u212 u213 u214 u215 u216 u217 u218 u219 u220 u221 u222 u223 hrel
          exact KZP1.out

set_option maxRecDepth 100000 in
set_option maxHeartbeats 60000000 in
noncomputable def c_specAn_p1_1 : (P0 : Prop) ×' (P1 : Prop) ×' (P2 : Prop) ×' (P3 : Prop) ×' (P4 : Prop) ×' (P5 : Prop) ×' (P6 : Prop) ×' (Keep1 P0 → Keep1 P1 → Keep1 P2 → Keep1 P3 → Keep1 P4 → Keep1 P5 → Keep1 P6 → c_specAn_1.2.1) := by
  refine' ⟨_, _, _, _, _, _, _, fun KZP0 KZP1 KZP2 KZP3 KZP4 KZP5 KZP6 => ?main⟩
  case main =>
    unfold c_specAn_1
    dsimp only
    intro a cap L w HOK HS i0 j0 hi0 hz0 hz1 hz2 hj0 jz0 jz1 jz2 V1 V2 zz2 zz3 u8 u9 u10 u11 u12 u19 u20 u21 u22 u23 u24 u25 u26 u27 u28 u29 u30 u31 u32 u33 u34 u35 u36 u37 u38 u39 u40 u41 u42 u43 u44 u45 u46 u47 u48 u49 u50 u51 u52 u53 u54 u55 u56 u57 u58 u59 u60 u61 u62 u63 u64 u65 u66 u67 u68 u69 u70 u71 u72 u73 u74 u75 u76 u77 u78 u79 u80 u81 u82 u83 u84 k q ad at' cd ct hq HN HD HT HA BW hn hl RL zz5 zz6 zz7 zz8 wr u4 u5 u13 u14 u15 u16 u86 u87 u88 u89 u90 u91 u92 u93 u94 u95 u96 u97 u98 u99 u100 u101 u102 u103 u104 u105 u106 u107 u108 u109 u110 u111 u112 u113 u114 u115 u116 u117 u118 u119 u120 u121 u122 u123 u124 u125 u126 u127 u128 u129 u130 u131 u132 u133 u134 u135 u136 u137 u138 u139 u140 u141 u142 u143 u144 u145 u146 u147 u148 u149 u150 u151 u152 u153 u154 u155 u156 u157 u158 u159 u160 u161 u162 u163 u164 u165 u166 u167 u168 u169 u170 u171 u172 u173 u174 u175 u176 u177 u178 u179 u180 u181 u182 u183 u184 u185 u186 u187 u188 u189 u190 u191 u192 u193 u194 u195 u196 u197 u198 u199 u200 u201 u202 u203 u204 u205 u206 u207 u208 u209 u210 u211 u212 u213 u214 u215 u216 u217 u218 u219 u220 u221 u222 u223 hrel
    clear HD HT HA BW
    obtain ⟨p, ad, at', cd, ct, hqp, hpk, rfl, rfl, rfl, HD, HT, HA, BW⟩ := hrel
    rename World => wo
    by_cases hlt : p < k
    · have RQ := RL.out.below BW.out
      obtain ⟨b, off, hla, hbl, hc⟩ := RQ.2 (by omega)
      subst hla
      obtain ⟨⟨ve, vl, vt, vk, vp, vn, vg, vz, vb, va⟩, hv⟩ : ∃ v, v = L.getD p zeroR := ⟨_, rfl⟩
      obtain ⟨e0, e1, e2, e3, e4, e5, e6, e7, e8, e9⟩ := RdQ.at hc hlt hv
      dsimp only at e0 e1 e2 e3 e4 e5 e6 e7 e8 e9
      have HO := HOK.out p (by omega)
      have k6 : vk ≠ 6 := by have := HN.out p hqp hlt; rwa [← hv] at this
      rw [← hv] at HO
      have HTT := okLR_t HO.1 k6
      have HG := rec_g HO.1
      have hl1 : 1 ≤ vl := by have := HO.2; dsimp only at this; omega
      dsimp only at HTT HG
      obtain ⟨m, rfl⟩ : ∃ m : Nat, vt = (m : Int) := ⟨vt.toNat, by omega⟩
      obtain ⟨pg, rfl⟩ : ∃ m : Nat, vg = (m : Int) := ⟨vg.toNat, by omega⟩
      have hm60 : m ≤ 60 := by omega
      have hp8 : pg < 8 := by omega
      have ATK := anR_take (L := L) (k := p) (by omega)
      rw [← hv] at ATK
      unfold anS at ATK
      rw [if_neg k6] at ATK
      have AT : Hid (anR (L.take (p + 1)) = anM (anR (L.take p)) ⟨ve, vl, (m : Int), vk, vp, vn, (pg : Int), vz, vb, va⟩) := ATK
      have POS := anR_pos HOK.out p (by omega)
      generalize anR (L.take p) = G at HD HT AT POS ⊢
      have TS := txS_step (g := G) (r := ⟨ve, vl, (m : Int), vk, vp, vn, (pg : Int), vz, vb, va⟩) (t := m) rfl hm60 (by dsimp only; omega) hl1
      have DS := drS_step (g := G) (r := ⟨ve, vl, (m : Int), vk, vp, vn, (pg : Int), vz, vb, va⟩) (p := pg) rfl hp8 hl1 POS
      have CT : Hid (Cut3 (txS G) (seg (shT G) 0 m) (if 0 < shT G m then [((m : Int), shT G m)] else []) (seg (shT G) (m + 1) (60 - m)) (m : Int)) := Cut3.seg (shT G) m 61 (by omega)
      have CD : Hid (Cut3 (drS G) (seg G 0 pg) (if 0 < G pg then [((pg : Int), G pg)] else []) (seg G (pg + 1) (7 - pg)) (pg : Int)) := Cut3.seg G pg 8 (by omega)
      have lXT : (txS G).length ≤ 61 := seg_len 61 0
      have lXD : (drS G).length ≤ 8 := seg_len 8 0
      have T2 : Hid (txS (anM G ⟨ve, vl, (m : Int), vk, vp, vn, (pg : Int), vz, vb, va⟩) = seg (shT G) 0 m ++ ((if endK vk then [] else [((m : Int), vl)]) ++ seg (shT G) (m + 1) (60 - m))) := TS.2
      have D2 : Hid (vk = 2 ∨ vk = 3 → drS (anM G ⟨ve, vl, (m : Int), vk, vp, vn, (pg : Int), vz, vb, va⟩) = seg G 0 pg ++ ((if 0 < G pg then [((pg : Int), G pg)] else [((pg : Int), vl)]) ++ seg G (pg + 1) (7 - pg))) := DS.2.1
      have D3 : Hid (¬ (vk = 2 ∨ vk = 3) → drS (anM G ⟨ve, vl, (m : Int), vk, vp, vn, (pg : Int), vz, vb, va⟩) = drS G) := DS.2.2
      clear TS DS HTT HG HO hv hc RQ ATK POS k6
      generalize txS G = XT at HT CT lXT ⊢
      generalize drS G = XD at HD CD lXD D3 ⊢
      generalize seg (shT G) 0 m = TA at CT T2
      generalize seg (shT G) (m + 1) (60 - m) = TB at CT T2
      generalize seg G 0 pg = DA at CD D2
      generalize seg G (pg + 1) (7 - pg) = DB at CD D2
      generalize hsv : shT G m = sv at CT
      generalize hgv : G pg = gv at CD D2
      generalize hTX' : txS (anM G ⟨ve, vl, (m : Int), vk, vp, vn, (pg : Int), vz, vb, va⟩) = TX' at T2
      generalize hDX' : drS (anM G ⟨ve, vl, (m : Int), vk, vp, vn, (pg : Int), vz, vb, va⟩) = DX' at D2 D3
      have AT2 : Hid (txS (anR (L.take (p + 1))) = TX' ∧ drS (anR (L.take (p + 1))) = DX') := by unfold Hid; rw [AT.out]; exact ⟨hTX', hDX'⟩
      clear hTX' hDX' hsv hgv AT
      obtain ⟨bt, hbt⟩ : ∃ bt, 0 < XT.length → at' = some ⟨bt, 0, none⟩ := by
        rcases own_form HT.out with ⟨_, h1⟩ | ⟨g, cp, h1, _⟩
        · exact ⟨0, fun h => by omega⟩
        · simp only [Value.slice.injEq] at h1; exact ⟨g, fun _ => h1.1⟩
      have HBT : Hid (0 < XT.length → at' = some ⟨bt, 0, none⟩) := hbt
      have HBL : Hid (0 < XT.length → w.heap.size ≤ bt ∧ bt < wo.heap.size) := fun h => by
        have h0 := hbt h
        rcases own_form HT.out with ⟨_, h1⟩ | ⟨g, cp, h1, h2, h3⟩
        · omega
        · simp only [Value.slice.injEq] at h1
          rw [h0] at h1
          simp only [Option.some.injEq, Addr.mk.injEq, and_true] at h1
          omega
      clear hbt
      obtain ⟨bd, rfl⟩ : ∃ bd, ad = some ⟨bd, 0, none⟩ := by
        rcases own_form HD.out with ⟨h1, _⟩ | ⟨g, cp, h1, _⟩
        · simp only [Value.slice.injEq] at h1; have := HA.out; rw [h1.1] at this; cases this
        · simp only [Value.slice.injEq] at h1; exact ⟨g, h1.1⟩
      have hct : XT.length ≤ ct ∧ ct ≤ maxLen := by
        rcases HT.out.2 with ⟨h1, h0⟩ | ⟨g', cap', cur, h1, _, _, h2, h3, _⟩
        · simp only [Value.slice.injEq] at h1; omega
        · simp only [Value.slice.injEq] at h1; omega
      have hcd : XD.length ≤ cd ∧ cd ≤ maxLen := by
        rcases HD.out.2 with ⟨h1, h0⟩ | ⟨g', cap', cur, h1, _, _, h2, h3, _⟩
        · cases h1
        · simp only [Value.slice.injEq] at h1; omega
      unfold maxLen at hct hcd
      have g1 : (0 : Int) ≤ (p : Int) := by omega
      have g2 : (p : Int) < (k : Int) := by omega
      obtain ⟨W, hW⟩ : ∃ W, wo.alloc (.cells #[.int .i64 ve, .int .i64 vl, .int .i64 (m : Int), .int .i64 vk, .int .i64 vp, .int .i64 vn, .int .i64 (pg : Int), .int .i64 vz, .string vb, .string va] 43) = W := ⟨_, rfl⟩
      have hbA : Below wo.heap.size wo W := by rw [← hW]; exact (Below.refl _ _).alloc (Nat.le_refl _) _
      have BX : Hid (Below w.heap.size w W) := BW.out.trans (hbA.mono BW.out.size)
      have OT : Hid (W.ownsRow w.heap.size 57 2 (.slice at' XT.length ct) XT.length (cellsT (toT XT))) := own_below HT.out hbA
      have OD : Hid (W.ownsRow w.heap.size 54 2 (.slice (some ⟨bd, 0, none⟩) XD.length cd) XD.length (cellsD (toD XD))) := own_below HD.out hbA
      have NW : Hid (Box W wo.heap.size 43 #[.int .i64 ve, .int .i64 vl, .int .i64 (m : Int), .int .i64 vk, .int .i64 vp, .int .i64 vn, .int .i64 (pg : Int), .int .i64 vz, .string vb, .string va]) := by unfold Hid; rw [← hW]; exact Box.new _ _ _
      have LW : Hid (w.heap.size ≤ wo.heap.size) := BW.out.size
      clear hbA HA HD HT BW
      go_upto_block 8 with fail
      go_cut [15] from 96 to 111 (fun s wx => s = .int .i64 (TA.length : Int) ∧ Hid (Below W.heap.size W wx))
      case first => focus
        clear OD CD T2 D2 D3 AT2 BX hW e0 e1 e2 e3 e4 e5 e6 e7 e8 e9
        go_wp2_with fail
        go_loopw [15] (fun o wi => ∃ j : Nat, j ≤ TA.length ∧ o = .int .i64 (j : Int) ∧ Hid (Below W.heap.size W wi)) (fun o _ => TA.length - (intOf o).toNat)
        case atStart => exact ⟨0, by omega, rfl, Below.refl _ _⟩
        case round => focus
          obtain ⟨j, hj, rfl, BI⟩ := hrel
          rename World => wi
          have Oi := own_below OT.out BI.out
          have yb := (box10 (NW.out.belowS BI.out)).2.2.1
          have g1 : (0 : Int) ≤ (j : Int) := by omega
          by_cases hja : j < TA.length
          · have hc := CT.out.lt hja
            obtain rfl := HBT.out (by omega)
            have cx := own_atT Oi hc.1
            have g2 : (j : Int) < (XT.length : Int) := by have := hc.1; omega
            have c1 : decide ((XT.getD j (0, 0)).1 < ((m : Int) : Int)) = true := decide_eq_true hc.2
            generalize (XT.getD j (0, 0)).1 = z at cx c1
            clear hc Oi
            go_wp2_with fail
            go_quiet (fail)
            go_wp2
            go_roundw
            case rel => exact ⟨j + 1, by omega, by go_num, below_drewN BI.out _⟩
            case measure => simp [intOf]; omega
          · have e : j = TA.length := by omega
            subst e
            by_cases hjx : TA.length < XT.length
            · have hc := CT.out.ge hjx
              obtain rfl := HBT.out (by omega)
              have cx := own_atT Oi hjx
              have g2 : (TA.length : Int) < (XT.length : Int) := by omega
              have c1 : decide ((XT.getD TA.length (0, 0)).1 < ((m : Int) : Int)) = false := decide_eq_false (by omega)
              generalize (XT.getD TA.length (0, 0)).1 = z at cx c1 hc
              clear hc Oi
              go_wp2_with fail
              go_quiet (fail)
              go_wp2
              go_meet
              case rel => exact ⟨rfl, below_drewN BI.out _⟩
            · have g2 : ¬ (TA.length : Int) < (XT.length : Int) := by omega
              clear Oi
              go_wp2_with fail
              go_quiet (fail)
              go_wp2
              go_meet
              case rel => exact ⟨rfl, below_drewN BI.out _⟩
      case rest => focus
        obtain ⟨rfl, BI⟩ := hcut
        rename World => wi
        clear e0 e1 e2 e3 e4 e5 e6 e7 e8 e9 hW
        have NI : Hid (Box wi wo.heap.size 43 #[.int .i64 ve, .int .i64 vl, .int .i64 (m : Int), .int .i64 vk, .int .i64 vp, .int .i64 vn, .int .i64 (pg : Int), .int .i64 vz, .string vb, .string va]) := NW.out.belowS BI.out
        have OTi : Hid (wi.ownsRow w.heap.size 57 2 (.slice at' XT.length ct) XT.length (cellsT (toT XT))) := own_below OT.out BI.out
        have ODi : Hid (wi.ownsRow w.heap.size 54 2 (.slice (some ⟨bd, 0, none⟩) XD.length cd) XD.length (cellsD (toD XD))) := own_below OD.out BI.out
        have BXi : Hid (Below w.heap.size w wi) := BX.out.trans (BI.out.mono BX.out.size)
        clear NW OT OD BX BI
        go_wp2_with fail
        go_cut [16] from 112 to 125 (fun s wx => s = .bool (decide (0 < sv)) ∧ Hid (Below wi.heap.size wi wx))
        case first => focus
          have yb := (box10 NI.out).2.2.1
          have g1 : (0 : Int) ≤ (TA.length : Int) := by omega
          by_cases hs : 0 < sv
          · have CT1 := CT.out
            rw [if_pos hs] at CT1
            have hc := CT1.one
            obtain rfl := HBT.out (by have := hc.1; omega)
            have cx := own_atT OTi.out hc.1
            have g2 : (TA.length : Int) < (XT.length : Int) := by have := hc.1; omega
            have c1 : ((XT.getD TA.length (0, 0)).1 == (m : Int)) = true := by simpa using hc.2
            generalize (XT.getD TA.length (0, 0)).1 = z at cx c1 hc
            clear hc CT1
            try go_wp2_with fail
            go_quiet (fail)
            go_wp2
            go_meet
            case rel => exact ⟨by rw [decide_eq_true hs], below_drewN (Below.refl _ _) _⟩
          · have CT1 := CT.out
            rw [if_neg hs] at CT1
            by_cases hjx : TA.length < XT.length
            · have hc := CT1.none hjx
              obtain rfl := HBT.out (by omega)
              have cx := own_atT OTi.out hjx
              have g2 : (TA.length : Int) < (XT.length : Int) := by omega
              have c1 : ((XT.getD TA.length (0, 0)).1 == (m : Int)) = false := by
                have : ¬ (XT.getD TA.length (0, 0)).1 = (m : Int) := by omega
                simpa using this
              generalize (XT.getD TA.length (0, 0)).1 = z at cx c1 hc
              clear hc CT1
              try go_wp2_with fail
              go_quiet (fail)
              go_wp2
              go_meet
              case rel => exact ⟨by rw [decide_eq_false (by omega)], below_drewN (Below.refl _ _) _⟩
            · have g2 : ¬ (TA.length : Int) < (XT.length : Int) := by omega
              clear CT1
              try go_wp2_with fail
              go_quiet (fail)
              go_wp2
              go_meet
              case rel => exact ⟨by rw [decide_eq_false (by omega)], below_drewN (Below.refl _ _) _⟩
        case rest => focus
          obtain ⟨rfl, BI⟩ := hcut
          rename World => wj
          have NJ : Hid (Box wj wo.heap.size 43 #[.int .i64 ve, .int .i64 vl, .int .i64 (m : Int), .int .i64 vk, .int .i64 vp, .int .i64 vn, .int .i64 (pg : Int), .int .i64 vz, .string vb, .string va]) := NI.out.belowS BI.out
          have OTj : Hid (wj.ownsRow w.heap.size 57 2 (.slice at' XT.length ct) XT.length (cellsT (toT XT))) := own_below OTi.out BI.out
          have ODj : Hid (wj.ownsRow w.heap.size 54 2 (.slice (some ⟨bd, 0, none⟩) XD.length cd) XD.length (cellsD (toD XD))) := own_below ODi.out BI.out
          have BXj : Hid (Below w.heap.size w wj) := BXi.out.trans (BI.out.mono BXi.out.size)
          have low : Hid (w.heap.size ≤ wo.heap.size ∧ wo.heap.size < wj.heap.size) := ⟨LW.out, NJ.out.lt⟩
          clear NI OTi ODi BXi BI
          generalize hth : decide (0 < sv) = th
          have HTH : Hid (decide (0 < sv) = th) := hth
          clear hth
          go_upto_block 10 with fail
          go_cut [5] from 126 to 169 (fun s wx => ∃ (a' : Option Addr) (c' : Nat), s = .slice a' TX'.length c' ∧ Hid (wx.ownsRow w.heap.size 57 2 (.slice a' TX'.length c') TX'.length (cellsT (toT TX'))) ∧ Hid (wx.ownsRow w.heap.size 54 2 (.slice (some ⟨bd, 0, none⟩) XD.length cd) XD.length (cellsD (toD XD))) ∧ Hid (Box wx wo.heap.size 43 #[.int .i64 ve, .int .i64 vl, .int .i64 (m : Int), .int .i64 vk, .int .i64 vp, .int .i64 vn, .int .i64 (pg : Int), .int .i64 vz, .string vb, .string va]) ∧ Hid (Below w.heap.size w wx))
          case first => focus
            clear D2 D3 CD
            obtain ⟨y0, y1, y2, y3, y4, y5, y6, y7, y8, y9⟩ := box10 NJ.out
            go_upto_region 29 with fail
            go_cut [142] from 142 to 150 (fun s wx => s = .bool (endK vk) ∧ wx = wj)
            case first => focus
              by_cases k4 : vk = 4
              · have c1 : (vk == 4) = true := by simpa using k4
                go_wp2
                go_meet
                case rel => exact ⟨by unfold endK; rw [decide_eq_true k4]; rfl, rfl⟩
              · have c1 : (vk == 4) = false := by simpa using k4
                have c2 : (vk == 5) = decide (vk = 5) := by by_cases h : vk = 5 <;> simp [h]
                go_wp2
                go_meet
                case rel => exact ⟨by unfold endK; rw [decide_eq_false k4]; rfl, rfl⟩
            case rest => focus
              obtain ⟨rfl, hwj⟩ := hcut
              rename World => wk
              obtain rfl := hwj.symm
              have CT1 := CT.out.eq
              have g5 : (0 : Int) ≤ (TA.length : Int) := by omega
              cases hek : endK vk
              case true =>
                have T2' := T2.out
                rw [hek, if_pos rfl, List.nil_append] at T2'
                cases th
                case true =>
                  have hs : 0 < sv := of_decide_eq_true HTH.out
                  rw [if_pos hs] at CT1
                  have HX : Hid (XT = TA ++ ([((m : Int), sv)] ++ TB)) := CT1
                  have LX : XT.length = TA.length + (1 + TB.length) := by rw [CT1]; simp; omega
                  have LX1 : XT.length ≤ TA.length + 1 + TB.length := by omega
                  have LX2 : TA.length + 1 + TB.length ≤ XT.length := by omega
                  have hw1 : IntKind.i64.wrap ((TA.length : Int) + 1) = (TA.length : Int) + 1 := by rw [IntKind.wrap_i64]; omega
                  have g10 : (TA.length : Int) ≤ (TA.length : Int) + 1 := by omega
                  obtain rfl := HBT.out (by omega)
                  have g6 : (TA.length : Int) + 1 ≤ (XT.length : Int) := by omega
                  have g7 : (TA.length : Int) ≤ (XT.length : Int) := by omega
                  have g8 : (TA.length : Int) ≤ (ct : Int) := by omega
                  have g9 : (0 : Int) ≤ (TA.length : Int) + 1 := by omega
                  clear CT1 CT LX
                  by_cases hcc : ct = TA.length + 1
                  · have hTB : TB = [] := List.eq_nil_of_length_eq_zero (by omega)
                    subst hcc
                    focus
                      rename_i yy1 yy2 yy3 yy4 yy5 yy6 yy7 yy8 yy9 yy10 yy11 yy12 yy13 yy14 yy15 yy16 yy17 yy18 yy19 yy20 yy21 yy22 yy23 yy24 yy25 yy26 yy27 yy28 yy29 yy30 yy31 yy32 yy33 yy34 yy35 yy36 yy37 yy38 yy39 yy40 yy41 yy42 yy43 yy44 yy45 yy46 yy47 yy48 yy49 yy50
                      revert cap L w HOK HS i0 j0 hi0 hz0 hz1 hz2 hj0 jz0 jz1 jz2 V1 V2 zz2 zz3 u8 u9 u10 u11 u12 u19 u20 u21 u22 u23 u24 u25 u26 u27 u28 u29 u30 u31 u32 u33 u34 u35 u36 u37 u38 u39 u40 u41 u42 u43 u44 u45 u46 u47 u48 u49 u50 u51 u52 u53 u54 u55 u56 u57 u58 u59 u60 u61 u62 u63 u64 u65 u66 u67 u68 u69 u70 u71 u72 u73 u74 u75 u76 u77 u78 u79 u80 u81 u82 u83 u84 k q ad at' yy1 ct hq HN hn hl zz5 zz7 zz8 wo u14 u15 u16 u86 u87 u88 u89 u90 u91 u92 u93 u94 u95 yy2 yy3 yy4 yy5 yy6 yy7 yy8 yy9 yy10 yy11 yy12 yy13 yy14 yy15 yy16 yy17 yy18 yy19 yy20 yy21 yy22 yy23 yy24 yy25 yy26 yy27 yy28 yy29 yy30 yy31 u126 u127 u128 u129 u130 u131 u132 u133 u134 u135 u136 u137 u138 u139 u140 u141 u142 yy32 yy33 yy34 yy35 yy36 yy37 yy38 yy39 u151 u152 u153 u154 u155 u156 u157 u158 u159 u160 u161 u162 u163 u164 u165 u166 u167 u168 u169 u170 u171 u172 u173 u174 u175 u176 u177 u178 u179 u180 u181 u182 u183 u184 u185 u186 u187 u188 u189 u190 u191 u192 u193 u194 u195 u196 u197 u198 u199 u200 u201 u202 u203 u204 u205 u206 u207 u208 u209 u210 u211 u212 u213 u214 u215 u216 u217 u218 u219 u220 u221 u222 u223 p cd hqp hpk hlt b off hbl RL zz6 ve vl vk vp vn vz vb va hl1 m pg hm60 hp8 G XT lXT XD lXD TA TB DA DB sv gv TX' T2 DX' AT2 bt HBL bd hcd g1 g2 W LW yy40 wi u96 u97 u98 u99 u100 u101 u102 u103 u104 u105 u106 u107 u108 u109 u110 u111 wj u112 u113 u114 u115 u116 u117 u118 u119 u120 u121 u122 u123 u124 u125 NJ ODj BXj low yy41 yy42 yy43 yy44 y0 y1 y2 y3 y4 y5 y6 y7 y8 y9 yy45 u143 u144 u145 u146 u147 u148 u149 u150 hwj g5 hek T2' HTH yy46 hs HX LX1 LX2 hw1 g10 HBT g6 g7 g9 hTB hct yy47 yy48 OTj yy49 yy50 g8
                      exact KZP0.out
                  · have HNC : Hid (¬ ct = TA.length + 1) := hcc
                    focus
                      rename_i yy1 yy2 yy3 yy4 yy5 yy6 yy7 yy8 yy9 yy10 yy11 yy12 yy13 yy14 yy15 yy16 yy17 yy18 yy19 yy20 yy21 yy22 yy23 yy24 yy25 yy26 yy27 yy28 yy29 yy30 yy31 yy32 yy33 yy34 yy35 yy36 yy37 yy38 yy39 yy40 yy41 yy42 yy43 yy44 yy45 yy46 yy47 yy48 yy49 yy50 yy51
                      revert cap L w HOK HS i0 j0 hi0 hz0 hz1 hz2 hj0 jz0 jz1 jz2 V1 V2 zz2 zz3 u8 u9 u10 u11 u12 u19 u20 u21 u22 u23 u24 u25 u26 u27 u28 u29 u30 u31 u32 u33 u34 u35 u36 u37 u38 u39 u40 u41 u42 u43 u44 u45 u46 u47 u48 u49 u50 u51 u52 u53 u54 u55 u56 u57 u58 u59 u60 u61 u62 u63 u64 u65 u66 u67 u68 u69 u70 u71 u72 u73 u74 u75 u76 u77 u78 u79 u80 u81 u82 u83 u84 k q ad at' yy1 yy2 hq HN hn hl zz5 zz7 zz8 wo u14 u15 u16 u86 u87 u88 u89 u90 u91 u92 u93 u94 u95 yy3 yy4 yy5 yy6 yy7 yy8 yy9 yy10 yy11 yy12 yy13 yy14 yy15 yy16 yy17 yy18 yy19 yy20 yy21 yy22 yy23 yy24 yy25 yy26 yy27 yy28 yy29 yy30 yy31 yy32 u126 u127 u128 u129 u130 u131 u132 u133 u134 u135 u136 u137 u138 u139 u140 u141 u142 yy33 yy34 yy35 yy36 yy37 yy38 yy39 yy40 u151 u152 u153 u154 u155 u156 u157 u158 u159 u160 u161 u162 u163 u164 u165 u166 u167 u168 u169 u170 u171 u172 u173 u174 u175 u176 u177 u178 u179 u180 u181 u182 u183 u184 u185 u186 u187 u188 u189 u190 u191 u192 u193 u194 u195 u196 u197 u198 u199 u200 u201 u202 u203 u204 u205 u206 u207 u208 u209 u210 u211 u212 u213 u214 u215 u216 u217 u218 u219 u220 u221 u222 u223 p cd ct hqp hpk hlt b off hbl RL zz6 ve vl vk vp vn vz vb va hl1 m pg hm60 hp8 G XT lXT XD lXD TA TB DA DB sv gv TX' T2 DX' AT2 bt HBL bd hct hcd g1 g2 W LW yy41 wi u96 u97 u98 u99 u100 u101 u102 u103 u104 u105 u106 u107 u108 u109 u110 u111 wj u112 u113 u114 u115 u116 u117 u118 u119 u120 u121 u122 u123 u124 u125 NJ ODj BXj low yy42 yy43 yy44 yy45 y0 y1 y2 y3 y4 y5 y6 y7 y8 y9 yy46 u143 u144 u145 u146 u147 u148 u149 u150 hwj g5 hek T2' HTH yy47 hs HX LX1 LX2 hw1 g10 HBT yy48 yy49 OTj yy50 yy51 g6 g7 g8 g9 hcc HNC
                      exact KZP1.out
                case false =>
                  have hs : ¬ 0 < sv := of_decide_eq_false HTH.out
                  rw [if_neg hs] at CT1
                  have E : Hid (TX' = XT) := by unfold Hid; rw [T2', CT1]; rfl
                  clear T2' CT1
                  go_wp2
                  go_meet
                  case rel => exact ⟨at', ct, by rw [E.out], by unfold Hid; rw [E.out]; exact OTj.out, ODj, NJ, BXj⟩
              case false =>
                have T2' := T2.out
                rw [hek, if_neg (by simp)] at T2'
                cases th
                case true =>
                  have hs : 0 < sv := of_decide_eq_true HTH.out
                  rw [if_pos hs] at CT1
                  have LX0 : TA.length < XT.length := by rw [CT1]; simp
                  obtain rfl := HBT.out (by omega)
                  have hb := HBL.out (by omega)
                  have g6 : (TA.length : Int) < (XT.length : Int) := by omega
                  have st := OTj.out.stored (TA.length * 2 + 1) (.int .i64 vl)
                  have cx := own_at2 OTj.out LX0
                  have fz := OTj.out.frozenAt (TA.length * 2 + 1)
                  obtain ⟨w8, hw8⟩ : ∃ Q, wj.setCell ⟨bt, TA.length * 2 + 1, none⟩ (.int .i64 vl) = Q := ⟨_, rfl⟩
                  rw [hw8] at st
                  have LL : XT.length = TX'.length := by rw [T2', CT1]; simp
                  have OT8 : Hid (w8.ownsRow w.heap.size 57 2 (.slice (some ⟨bt, 0, none⟩) TX'.length ct) TX'.length (cellsT (toT TX'))) := by
                    unfold Hid
                    rw [← LL]
                    have e : cellsT (toT TX') = (cellsT (toT XT)).set (TA.length * 2 + 1) (.int .i64 vl) := by rw [T2', CT1, toT_put]
                    rw [e]
                    exact st.1
                  have OD8 : Hid (w8.ownsRow w.heap.size 54 2 (.slice (some ⟨bd, 0, none⟩) XD.length cd) XD.length (cellsD (toD XD))) := own_keep ODj.out st.2 (own_ne2 ODj.out OTj.out (by decide))
                  have N8 : Hid (Box w8 wo.heap.size 43 #[.int .i64 ve, .int .i64 vl, .int .i64 (m : Int), .int .i64 vk, .int .i64 vp, .int .i64 vn, .int .i64 (pg : Int), .int .i64 vz, .string vb, .string va]) := Box.grown NJ.out st.2 (fun e => by have e' : bt = wo.heap.size := Option.some.inj e; omega)
                  have BX8 : Hid (Below w.heap.size w w8) := BXj.out.grown st.2 BXj.out.size (fun j hj => by have e' : bt = j := Option.some.inj hj; omega)
                  have HL : Hid (XT.length = TX'.length) := LL
                  clear st CT1 CT T2' LL
                  go_wp2
                  go_meet
                  case rel => exact ⟨some ⟨bt, 0, none⟩, ct, congrArg (fun x => Value.slice (some ⟨bt, 0, none⟩) x ct) HL.out, OT8, OD8, N8, BX8⟩
                case false =>
                  have hs : ¬ 0 < sv := of_decide_eq_false HTH.out
                  rw [if_neg hs] at CT1
                  have HX : Hid (XT = TA ++ ([] ++ TB)) := CT1
                  have LX : XT.length = TA.length + TB.length := by rw [CT1]; simp
                  have LX1 : XT.length ≤ TA.length + TB.length := by omega
                  have LX2 : TA.length + TB.length ≤ XT.length := by omega
                  have g6 : (TA.length : Int) ≤ (XT.length : Int) := by omega
                  have g7 : (TA.length : Int) ≤ (ct : Int) := by omega
                  clear CT1 CT LX
                  by_cases hcc : ct = TA.length
                  · have hTB : TB = [] := List.eq_nil_of_length_eq_zero (by omega)
                    subst hcc
                    rcases own_form OTj.out with ⟨h1, h2⟩ | ⟨bu, cp, h1, _⟩
                    · simp only [Value.slice.injEq] at h1
                      obtain ⟨rfl, _, h3⟩ := h1
                      obtain rfl : TA = [] := List.eq_nil_of_length_eq_zero h3
                      obtain rfl : XT = [] := List.eq_nil_of_length_eq_zero h2
                      subst hTB
                      clear h2 h3
                      focus
                        rename_i yy1 yy2 yy3 yy4 yy5 yy6 yy7 yy8 yy9 yy10 yy11 yy12 yy13 yy14 yy15 yy16 yy17 yy18 yy19 yy20 yy21 yy22 yy23 yy24 yy25 yy26 yy27 yy28 yy29 yy30 yy31 yy32 yy33 yy34 yy35 yy36 yy37 yy38 yy39 yy40 yy41 yy42 yy43 yy44 yy45 yy46 yy47 yy48 yy49 yy50 yy51
                        revert cap L w HOK HS i0 j0 hi0 hz0 hz1 hz2 hj0 jz0 jz1 jz2 V1 V2 zz2 zz3 u8 u9 u10 u11 u12 u19 u20 u21 u22 u23 u24 u25 u26 u27 u28 u29 u30 u31 u32 u33 u34 u35 u36 u37 u38 u39 u40 u41 u42 u43 u44 u45 u46 u47 u48 u49 u50 u51 u52 u53 u54 u55 u56 u57 u58 u59 u60 u61 u62 u63 u64 u65 u66 u67 u68 u69 u70 u71 u72 u73 u74 u75 u76 u77 u78 u79 u80 u81 u82 u83 u84 k q ad at' yy1 ct hq HN hn hl zz5 zz7 zz8 wo u14 u15 u16 u86 u87 u88 u89 u90 u91 u92 u93 u94 u95 yy2 yy3 yy4 yy5 yy6 yy7 yy8 yy9 yy10 yy11 yy12 yy13 yy14 yy15 yy16 yy17 yy18 yy19 yy20 yy21 yy22 yy23 yy24 yy25 yy26 yy27 yy28 yy29 yy30 yy31 u126 u127 u128 u129 u130 u131 u132 u133 u134 u135 u136 u137 u138 u139 u140 u141 u142 yy32 yy33 yy34 yy35 yy36 yy37 yy38 yy39 u151 u152 u153 u154 u155 u156 u157 u158 u159 u160 u161 u162 u163 u164 u165 u166 u167 u168 u169 u170 u171 u172 u173 u174 u175 u176 u177 u178 u179 u180 u181 u182 u183 u184 u185 u186 u187 u188 u189 u190 u191 u192 u193 u194 u195 u196 u197 u198 u199 u200 u201 u202 u203 u204 u205 u206 u207 u208 u209 u210 u211 u212 u213 u214 u215 u216 u217 u218 u219 u220 u221 u222 u223 p cd hqp hpk hlt b off hbl RL zz6 ve vl vk vp vn vz vb va hl1 m pg hm60 hp8 G XD lXD DA DB sv gv TX' DX' AT2 bt bd hcd g1 g2 W LW yy40 wi u96 u97 u98 u99 u100 u101 u102 u103 u104 u105 u106 u107 u108 u109 u110 u111 wj u112 u113 u114 u115 u116 u117 u118 u119 u120 u121 u122 u123 u124 u125 NJ ODj BXj low yy41 yy42 yy43 yy44 y0 y1 y2 y3 y4 y5 y6 y7 y8 y9 yy45 u143 u144 u145 u146 u147 u148 u149 u150 hwj hek HTH hs g5 yy46 g7 lXT HBL HBT yy47 g6 hct yy48 yy49 OTj yy50 yy51 T2 T2' HX LX1 LX2
                        exact KZP2.out
                    · simp only [Value.slice.injEq] at h1
                      obtain ⟨rfl, hx⟩ := h1
                      clear hx
                      focus
                        rename_i yy1 yy2 yy3 yy4 yy5 yy6 yy7 yy8 yy9 yy10 yy11 yy12 yy13 yy14 yy15 yy16 yy17 yy18 yy19 yy20 yy21 yy22 yy23 yy24 yy25 yy26 yy27 yy28 yy29 yy30 yy31 yy32 yy33 yy34 yy35 yy36 yy37 yy38 yy39 yy40 yy41 yy42 yy43 yy44 yy45 yy46 yy47 yy48 yy49 yy50 yy51
                        revert cap L w HOK HS i0 j0 hi0 hz0 hz1 hz2 hj0 jz0 jz1 jz2 V1 V2 zz2 zz3 u8 u9 u10 u11 u12 u19 u20 u21 u22 u23 u24 u25 u26 u27 u28 u29 u30 u31 u32 u33 u34 u35 u36 u37 u38 u39 u40 u41 u42 u43 u44 u45 u46 u47 u48 u49 u50 u51 u52 u53 u54 u55 u56 u57 u58 u59 u60 u61 u62 u63 u64 u65 u66 u67 u68 u69 u70 u71 u72 u73 u74 u75 u76 u77 u78 u79 u80 u81 u82 u83 u84 k q ad at' yy1 ct hq HN hn hl zz5 zz7 zz8 wo u14 u15 u16 u86 u87 u88 u89 u90 u91 u92 u93 u94 u95 yy2 yy3 yy4 yy5 yy6 yy7 yy8 yy9 yy10 yy11 yy12 yy13 yy14 yy15 yy16 yy17 yy18 yy19 yy20 yy21 yy22 yy23 yy24 yy25 yy26 yy27 yy28 yy29 yy30 yy31 u126 u127 u128 u129 u130 u131 u132 u133 u134 u135 u136 u137 u138 u139 u140 u141 u142 yy32 yy33 yy34 yy35 yy36 yy37 yy38 yy39 u151 u152 u153 u154 u155 u156 u157 u158 u159 u160 u161 u162 u163 u164 u165 u166 u167 u168 u169 u170 u171 u172 u173 u174 u175 u176 u177 u178 u179 u180 u181 u182 u183 u184 u185 u186 u187 u188 u189 u190 u191 u192 u193 u194 u195 u196 u197 u198 u199 u200 u201 u202 u203 u204 u205 u206 u207 u208 u209 u210 u211 u212 u213 u214 u215 u216 u217 u218 u219 u220 u221 u222 u223 p cd hqp hpk hlt b off hbl RL zz6 ve vl vk vp vn vz vb va hl1 m pg hm60 hp8 G XT lXT XD lXD TA TB DA DB sv gv TX' T2 DX' AT2 bt HBL bd hcd g1 g2 W LW yy40 wi u96 u97 u98 u99 u100 u101 u102 u103 u104 u105 u106 u107 u108 u109 u110 u111 wj u112 u113 u114 u115 u116 u117 u118 u119 u120 u121 u122 u123 u124 u125 NJ ODj BXj low yy41 yy42 yy43 yy44 y0 y1 y2 y3 y4 y5 y6 y7 y8 y9 yy45 u143 u144 u145 u146 u147 u148 u149 u150 hwj g5 hek T2' HTH yy46 hs HX LX1 LX2 g6 hTB hct g7 bu cp yy47 HBT yy48 yy49 OTj yy50 yy51
                        exact KZP3.out
                  · rcases own_form OTj.out with ⟨h1, h2⟩ | ⟨bu, cp, h1, _⟩
                    · simp only [Value.slice.injEq] at h1
                      exact absurd (by omega) hcc
                    · simp only [Value.slice.injEq] at h1
                      obtain ⟨rfl, hx⟩ := h1
                      clear hx
                      have HNC : Hid (¬ ct = TA.length) := hcc
                      focus
                        rename_i yy1 yy2 yy3 yy4 yy5 yy6 yy7 yy8 yy9 yy10 yy11 yy12 yy13 yy14 yy15 yy16 yy17 yy18 yy19 yy20 yy21 yy22 yy23 yy24 yy25 yy26 yy27 yy28 yy29 yy30 yy31 yy32 yy33 yy34 yy35 yy36 yy37 yy38 yy39 yy40 yy41 yy42 yy43 yy44 yy45 yy46 yy47 yy48 yy49 yy50 yy51 yy52
                        revert cap L w HOK HS i0 j0 hi0 hz0 hz1 hz2 hj0 jz0 jz1 jz2 V1 V2 zz2 zz3 u8 u9 u10 u11 u12 u19 u20 u21 u22 u23 u24 u25 u26 u27 u28 u29 u30 u31 u32 u33 u34 u35 u36 u37 u38 u39 u40 u41 u42 u43 u44 u45 u46 u47 u48 u49 u50 u51 u52 u53 u54 u55 u56 u57 u58 u59 u60 u61 u62 u63 u64 u65 u66 u67 u68 u69 u70 u71 u72 u73 u74 u75 u76 u77 u78 u79 u80 u81 u82 u83 u84 k q ad at' yy1 yy2 hq HN hn hl zz5 zz7 zz8 wo u14 u15 u16 u86 u87 u88 u89 u90 u91 u92 u93 u94 u95 yy3 yy4 yy5 yy6 yy7 yy8 yy9 yy10 yy11 yy12 yy13 yy14 yy15 yy16 yy17 yy18 yy19 yy20 yy21 yy22 yy23 yy24 yy25 yy26 yy27 yy28 yy29 yy30 yy31 yy32 u126 u127 u128 u129 u130 u131 u132 u133 u134 u135 u136 u137 u138 u139 u140 u141 u142 yy33 yy34 yy35 yy36 yy37 yy38 yy39 yy40 u151 u152 u153 u154 u155 u156 u157 u158 u159 u160 u161 u162 u163 u164 u165 u166 u167 u168 u169 u170 u171 u172 u173 u174 u175 u176 u177 u178 u179 u180 u181 u182 u183 u184 u185 u186 u187 u188 u189 u190 u191 u192 u193 u194 u195 u196 u197 u198 u199 u200 u201 u202 u203 u204 u205 u206 u207 u208 u209 u210 u211 u212 u213 u214 u215 u216 u217 u218 u219 u220 u221 u222 u223 p cd ct hqp hpk hlt b off hbl RL zz6 ve vl vk vp vn vz vb va hl1 m pg hm60 hp8 G XT lXT XD lXD TA TB DA DB sv gv TX' T2 DX' AT2 bt HBL bd hct hcd g1 g2 W LW yy41 wi u96 u97 u98 u99 u100 u101 u102 u103 u104 u105 u106 u107 u108 u109 u110 u111 wj u112 u113 u114 u115 u116 u117 u118 u119 u120 u121 u122 u123 u124 u125 NJ ODj BXj low yy42 yy43 yy44 yy45 y0 y1 y2 y3 y4 y5 y6 y7 y8 y9 yy46 u143 u144 u145 u146 u147 u148 u149 u150 hwj g5 hek T2' HTH yy47 hs HX LX1 LX2 g6 g7 hcc bu cp yy48 HBT yy49 yy50 OTj yy51 yy52 HNC
                        exact KZP4.out
          case rest => focus
            obtain ⟨at2, ct2, rfl, OT2, OD2, N2, BX2⟩ := hcut
            rename World => w2
            have N_w2 := N2
            have OT_w2 := OT2
            have OD_w2 := OD2
            have BX_w2 := BX2
            clear N2 OT2 OD2 BX2 CT T2 HBT HBL HTH
            obtain ⟨y0, y1, y2, y3, y4, y5, y6, y7, y8, y9⟩ := box10 N_w2.out
            go_upto_region 34 with fail
            go_cut [177] from 170 to 177 (fun s wx => s = .bool (!decide (vk = 2 ∨ vk = 3)) ∧ wx = w2)
            case first => focus
              by_cases k2 : vk = 2
              · have c1 : (vk != 2) = false := by simpa using k2
                go_wp2
                go_meet
                case rel => exact ⟨by rw [decide_eq_true (Or.inl k2)]; rfl, rfl⟩
              · have c1 : (vk != 2) = true := by simpa using k2
                have c2 : (vk != 3) = !decide (vk = 2 ∨ vk = 3) := by by_cases h : vk = 3 <;> simp [h, k2]
                go_wp2
                go_meet
                case rel => exact ⟨by rw [up23 k2], rfl⟩
            case rest => focus
              obtain ⟨rfl, hwj⟩ := hcut
              rename World => wk
              obtain rfl := hwj.symm
              by_cases hup : vk = 2 ∨ vk = 3
              case neg =>
                have E : Hid (DX' = XD) := D3.out hup
                rw [decide_eq_false hup]
                clear D2 D3 hup
                have FD : Hid (w2.ownsRow w.heap.size 54 2 (.slice (some ⟨bd, 0, none⟩) (drS (anR (L.take (p + 1)))).length cd) (drS (anR (L.take (p + 1)))).length (cellsD (toD (drS (anR (L.take (p + 1))))))) := by unfold Hid; rw [AT2.out.2, E.out]; exact OD_w2.out
                have FT : Hid (w2.ownsRow w.heap.size 57 2 (.slice at2 (txS (anR (L.take (p + 1)))).length ct2) (txS (anR (L.take (p + 1)))).length (cellsT (toT (txS (anR (L.take (p + 1))))))) := by unfold Hid; rw [AT2.out.1]; exact OT_w2.out
                have FI : Hid ((some ⟨bd, 0, none⟩ : Option Addr).isSome = true) := rfl
                go_wp2
                go_roundw
                case rel => exact ⟨p + 1, some ⟨bd, 0, none⟩, at2, cd, ct2, by omega, by omega, by go_num, by rw [AT2.out.2, E.out], by rw [AT2.out.1], FD, FT, FI, BX_w2⟩
                case measure => simp [intOf]; omega
              case pos =>
                have D2' : Hid (_ = _) := D2.out hup
                rw [decide_eq_true hup]
                clear D2 D3 hup y0 y1 y2 y3 y4 y5 y6 y7 y8 y9
                go_upto_block 11 with fail
                go_cut [15] from 178 to 193 (fun s wx => s = .int .i64 (DA.length : Int) ∧ Hid (Below w2.heap.size w2 wx))
                case first => focus
                  go_wp2_with fail
                  go_loopw [15] (fun o wi => ∃ j : Nat, j ≤ DA.length ∧ o = .int .i64 (j : Int) ∧ Hid (Below w2.heap.size w2 wi)) (fun o _ => DA.length - (intOf o).toNat)
                  case atStart => exact ⟨0, by omega, rfl, Below.refl _ _⟩
                  case round => focus
                    obtain ⟨j, hj, rfl, BI⟩ := hrel
                    rename World => wi
                    have Oi := own_below OD_w2.out BI.out
                    have yb := (box10 (N_w2.out.belowS BI.out)).2.2.2.2.2.2.1
                    have g1 : (0 : Int) ≤ (j : Int) := by omega
                    by_cases hja : j < DA.length
                    · have hc := CD.out.lt hja
                      have cx := own_atD Oi hc.1
                      have g2 : (j : Int) < (XD.length : Int) := by have := hc.1; omega
                      have c1 : decide ((XD.getD j (0, 0)).1 < ((pg : Int) : Int)) = true := decide_eq_true hc.2
                      generalize (XD.getD j (0, 0)).1 = z at cx c1
                      clear hc Oi
                      go_wp2_with fail
                      go_quiet (fail)
                      go_wp2
                      go_roundw
                      case rel => exact ⟨j + 1, by omega, by go_num, below_drewN BI.out _⟩
                      case measure => simp [intOf]; omega
                    · have e : j = DA.length := by omega
                      subst e
                      by_cases hjx : DA.length < XD.length
                      · have hc := CD.out.ge hjx
                        have cx := own_atD Oi hjx
                        have g2 : (DA.length : Int) < (XD.length : Int) := by omega
                        have c1 : decide ((XD.getD DA.length (0, 0)).1 < ((pg : Int) : Int)) = false := decide_eq_false (by omega)
                        generalize (XD.getD DA.length (0, 0)).1 = z at cx c1 hc
                        clear hc Oi
                        go_wp2_with fail
                        go_quiet (fail)
                        go_wp2
                        go_meet
                        case rel => exact ⟨rfl, below_drewN BI.out _⟩
                      · have g2 : ¬ (DA.length : Int) < (XD.length : Int) := by omega
                        clear Oi
                        go_wp2_with fail
                        go_quiet (fail)
                        go_wp2
                        go_meet
                        case rel => exact ⟨rfl, below_drewN BI.out _⟩
                case rest => focus
                  obtain ⟨rfl, BI⟩ := hcut
                  rename World => w3
                  have N_w3 : Hid (Box w3 wo.heap.size 43 #[.int .i64 ve, .int .i64 vl, .int .i64 (m : Int), .int .i64 vk, .int .i64 vp, .int .i64 vn, .int .i64 (pg : Int), .int .i64 vz, .string vb, .string va]) := N_w2.out.belowS BI.out
                  have OT_w3 : Hid (w3.ownsRow w.heap.size 57 2 (.slice at2 TX'.length ct2) TX'.length (cellsT (toT TX'))) := own_below OT_w2.out BI.out
                  have OD_w3 : Hid (w3.ownsRow w.heap.size 54 2 (.slice (some ⟨bd, 0, none⟩) XD.length cd) XD.length (cellsD (toD XD))) := own_below OD_w2.out BI.out
                  have BX_w3 : Hid (Below w.heap.size w w3) := BX_w2.out.trans (BI.out.mono BX_w2.out.size)
                  clear N_w2 OT_w2 OD_w2 BX_w2 BI
                  go_wp2_with fail
                  go_cut [207] from 194 to 207 (fun s wx => s = .bool (!decide (0 < gv)) ∧ Hid (Below w3.heap.size w3 wx))
                  case first => focus
                    have yb := (box10 N_w3.out).2.2.2.2.2.2.1
                    have g1 : (0 : Int) ≤ (DA.length : Int) := by omega
                    by_cases hs : 0 < gv
                    · have CT1 := CD.out
                      rw [if_pos hs] at CT1
                      have hc := CT1.one
                      have cx := own_atD OD_w3.out hc.1
                      have g2 : (DA.length : Int) < (XD.length : Int) := by have := hc.1; omega
                      have c0 : ((DA.length : Int) == (XD.length : Int)) = false := by
                        have : ¬ (DA.length : Int) = (XD.length : Int) := by omega
                        simpa using this
                      have c1 : ((XD.getD DA.length (0, 0)).1 != (pg : Int)) = false := by simpa using hc.2
                      generalize (XD.getD DA.length (0, 0)).1 = z at cx c1 hc
                      clear hc CT1
                      try go_wp2_with fail
                      go_quiet (fail)
                      go_wp2
                      go_meet
                      case rel => exact ⟨by rw [decide_eq_true hs]; rfl, below_drewN (Below.refl _ _) _⟩
                    · have CT1 := CD.out
                      rw [if_neg hs] at CT1
                      by_cases hjx : DA.length < XD.length
                      · have hc := CT1.none hjx
                        have cx := own_atD OD_w3.out hjx
                        have g2 : (DA.length : Int) < (XD.length : Int) := by omega
                        have c0 : ((DA.length : Int) == (XD.length : Int)) = false := by
                          have : ¬ (DA.length : Int) = (XD.length : Int) := by omega
                          simpa using this
                        have c1 : ((XD.getD DA.length (0, 0)).1 != (pg : Int)) = true := by
                          have : ¬ (XD.getD DA.length (0, 0)).1 = (pg : Int) := by omega
                          simpa using this
                        generalize (XD.getD DA.length (0, 0)).1 = z at cx c1 hc
                        clear hc CT1
                        try go_wp2_with fail
                        go_quiet (fail)
                        go_wp2
                        go_meet
                        case rel => exact ⟨by rw [decide_eq_false (by omega)]; rfl, below_drewN (Below.refl _ _) _⟩
                      · have c0 : ((DA.length : Int) == (XD.length : Int)) = true := by
                          have h1 : XD.length = DA.length := by
                            have := congrArg List.length CT1.eq
                            rw [List.length_append] at this
                            omega
                          rw [h1]; simp
                        clear CT1
                        try go_wp2_with fail
                        go_quiet (fail)
                        go_wp2
                        go_meet
                        case rel => exact ⟨by rw [decide_eq_false (by omega)]; rfl, below_drewN (Below.refl _ _) _⟩
                  case rest => focus
                    obtain ⟨rfl, BI⟩ := hcut
                    rename World => w4
                    have N_w4 : Hid (Box w4 wo.heap.size 43 #[.int .i64 ve, .int .i64 vl, .int .i64 (m : Int), .int .i64 vk, .int .i64 vp, .int .i64 vn, .int .i64 (pg : Int), .int .i64 vz, .string vb, .string va]) := N_w3.out.belowS BI.out
                    have OT_w4 : Hid (w4.ownsRow w.heap.size 57 2 (.slice at2 TX'.length ct2) TX'.length (cellsT (toT TX'))) := own_below OT_w3.out BI.out
                    have OD_w4 : Hid (w4.ownsRow w.heap.size 54 2 (.slice (some ⟨bd, 0, none⟩) XD.length cd) XD.length (cellsD (toD XD))) := own_below OD_w3.out BI.out
                    have BX_w4 : Hid (Below w.heap.size w w4) := BX_w3.out.trans (BI.out.mono BX_w3.out.size)
                    clear N_w3 OT_w3 OD_w3 BX_w3 BI
                    have CD1 := CD.out.eq
                    obtain ⟨y0, y1, y2, y3, y4, y5, y6, y7, y8, y9⟩ := box10 N_w4.out
                    by_cases hs : 0 < gv
                    · have E : Hid (DX' = XD) := by unfold Hid; rw [D2'.out, CD1, if_pos hs, if_pos hs]
                      rw [decide_eq_true hs]
                      clear CD1 D2' CD hs
                      have FD : Hid (w4.ownsRow w.heap.size 54 2 (.slice (some ⟨bd, 0, none⟩) (drS (anR (L.take (p + 1)))).length cd) (drS (anR (L.take (p + 1)))).length (cellsD (toD (drS (anR (L.take (p + 1))))))) := by unfold Hid; rw [AT2.out.2, E.out]; exact OD_w4.out
                      have FT : Hid (w4.ownsRow w.heap.size 57 2 (.slice at2 (txS (anR (L.take (p + 1)))).length ct2) (txS (anR (L.take (p + 1)))).length (cellsT (toT (txS (anR (L.take (p + 1))))))) := by unfold Hid; rw [AT2.out.1]; exact OT_w4.out
                      have FI : Hid ((some ⟨bd, 0, none⟩ : Option Addr).isSome = true) := rfl
                      go_wp2
                      go_roundw
                      case rel => exact ⟨p + 1, some ⟨bd, 0, none⟩, at2, cd, ct2, by omega, by omega, by go_num, by rw [AT2.out.2, E.out], by rw [AT2.out.1], FD, FT, FI, BX_w4⟩
                      case measure => simp [intOf]; omega
                    · have D2' := D2'.out
                      rw [if_neg hs] at CD1 D2'
                      rw [decide_eq_false hs]
                      have HX : Hid (XD = DA ++ ([] ++ DB)) := CD1
                      have LX : XD.length = DA.length + DB.length := by rw [CD1]; simp
                      have LX1 : XD.length ≤ DA.length + DB.length := by omega
                      have LX2 : DA.length + DB.length ≤ XD.length := by omega
                      have g5 : (0 : Int) ≤ (DA.length : Int) := by omega
                      have g6 : (DA.length : Int) ≤ (XD.length : Int) := by omega
                      have g7 : (DA.length : Int) ≤ (cd : Int) := by omega
                      clear CD1 CD LX
                      by_cases hcc : cd = DA.length
                      · have hTB : DB = [] := List.eq_nil_of_length_eq_zero (by omega)
                        subst hcc
                        focus
                          rename_i yy1 yy2 yy3 yy4 yy5 yy6 yy7 yy8 yy9 yy10 yy11 yy12 yy13 yy14 yy15 yy16 yy17 yy18 yy19 yy20 yy21 yy22 yy23 yy24 yy25 yy26 yy27 yy28 yy29 yy30 yy31 yy32 yy33 yy34 yy35 yy36 yy37 yy38 yy39 yy40 yy41 yy42 yy43 yy44 yy45 yy46 yy47 yy48 yy49 yy50 yy51 yy52 yy53 yy54 yy55 yy56 yy57 yy58 yy59 yy60 yy61 yy62 yy63 yy64 yy65 yy66 yy67 yy68 yy69 yy70 yy71 yy72 yy73 yy74 yy75 yy76 yy77 yy78 yy79 yy80 yy81 yy82 yy83 yy84 yy85 yy86 yy87 yy88 yy89 yy90 yy91 yy92 yy93 yy94 yy95 yy96 yy97 yy98 yy99 yy100 yy101 yy102 yy103 yy104 yy105 yy106 yy107 yy108 yy109 yy110 yy111 yy112 yy113 yy114 yy115 yy116 yy117 yy118 yy119
                          revert cap L w HOK HS i0 j0 hi0 hz0 hz1 hz2 hj0 jz0 jz1 jz2 V1 V2 zz2 zz3 u8 u9 u10 u11 u12 u19 u20 u21 u22 u23 u24 u25 u26 u27 u28 u29 u30 u31 u32 u33 u34 u35 u36 u37 u38 u39 u40 u41 u42 u43 u44 u45 u46 u47 u48 u49 u50 u51 u52 u53 u54 u55 u56 u57 u58 u59 u60 u61 u62 u63 u64 u65 u66 u67 u68 u69 u70 u71 u72 u73 u74 u75 u76 u77 u78 u79 u80 u81 u82 u83 u84 k q ad yy1 cd yy2 hq HN hn hl zz5 zz7 zz8 wo u14 u15 u16 u86 u87 u88 u89 u90 u91 u92 u93 u94 u95 yy3 yy4 yy5 yy6 yy7 yy8 yy9 yy10 yy11 yy12 yy13 yy14 yy15 yy16 yy17 yy18 yy19 yy20 yy21 yy22 yy23 yy24 yy25 yy26 yy27 yy28 yy29 yy30 yy31 yy32 yy33 yy34 yy35 yy36 yy37 yy38 yy39 yy40 yy41 yy42 yy43 yy44 yy45 yy46 yy47 yy48 yy49 yy50 yy51 yy52 yy53 yy54 yy55 yy56 yy57 yy58 yy59 yy60 yy61 yy62 yy63 yy64 yy65 yy66 yy67 yy68 yy69 yy70 yy71 yy72 yy73 yy74 yy75 yy76 yy77 yy78 yy79 yy80 yy81 yy82 yy83 u177 yy84 yy85 yy86 yy87 yy88 yy89 yy90 yy91 yy92 yy93 yy94 yy95 yy96 yy97 yy98 yy99 yy100 yy101 yy102 yy103 yy104 yy105 yy106 yy107 yy108 yy109 yy110 yy111 yy112 u207 u208 u209 u210 u211 u212 u213 u214 u215 u216 u217 u218 u219 u220 u221 u222 u223 p at' ct hqp hpk hlt b off hbl RL zz6 ve vl vk vp vn vz vb va hl1 m pg hm60 hp8 G XT lXT XD lXD TA TB DA DB sv gv TX' DX' AT2 bt bd hct g1 g2 W LW yy113 wi u96 u97 u98 u99 u100 u101 u102 u103 u104 u105 u106 u107 u108 u109 u110 u111 wj u112 u113 u114 u115 u116 u117 u118 u119 u120 u121 u122 u123 u124 u125 NJ OTj BXj low th w2 u126 u127 u128 u129 u130 u131 u132 u133 u134 u135 u136 u137 u138 u139 u140 u141 u142 u143 u144 u145 u146 u147 u148 u149 u150 u151 u152 u153 u154 u155 u156 u157 u158 u159 u160 u161 u162 u163 u164 u165 u166 u167 u168 u169 at2 ct2 u170 u171 u172 u173 u174 u175 u176 yy114 yy115 w3 u178 u179 u180 u181 u182 u183 u184 u185 u186 u187 u188 u189 u190 u191 u192 u193 yy116 hwj w4 u194 u195 u196 u197 u198 u199 u200 u201 u202 u203 u204 u205 u206 N_w4 OT_w4 BX_w4 y0 y1 y2 y3 y4 y5 y6 y7 y8 y9 hs D2' HX LX1 LX2 g5 g6 hTB hcd yy117 yy118 ODj yy119 OD_w4 g7
                          exact KZP5.out
                      · have HNC : Hid (¬ cd = DA.length) := hcc
                        focus
                          rename_i yy1 yy2 yy3 yy4 yy5 yy6 yy7 yy8 yy9 yy10 yy11 yy12 yy13 yy14 yy15 yy16 yy17 yy18 yy19 yy20 yy21 yy22 yy23 yy24 yy25 yy26 yy27 yy28 yy29 yy30 yy31 yy32 yy33 yy34 yy35 yy36 yy37 yy38 yy39 yy40 yy41 yy42 yy43 yy44 yy45 yy46 yy47 yy48 yy49 yy50 yy51 yy52 yy53 yy54 yy55 yy56 yy57 yy58 yy59 yy60 yy61 yy62 yy63 yy64 yy65 yy66 yy67 yy68 yy69 yy70 yy71 yy72 yy73 yy74 yy75 yy76 yy77 yy78 yy79 yy80 yy81 yy82 yy83 yy84 yy85 yy86 yy87 yy88 yy89 yy90 yy91 yy92 yy93 yy94 yy95 yy96 yy97 yy98 yy99 yy100 yy101 yy102 yy103 yy104 yy105 yy106 yy107 yy108 yy109 yy110 yy111 yy112 yy113 yy114 yy115 yy116 yy117 yy118 yy119 yy120
                          revert cap L w HOK HS i0 j0 hi0 hz0 hz1 hz2 hj0 jz0 jz1 jz2 V1 V2 zz2 zz3 u8 u9 u10 u11 u12 u19 u20 u21 u22 u23 u24 u25 u26 u27 u28 u29 u30 u31 u32 u33 u34 u35 u36 u37 u38 u39 u40 u41 u42 u43 u44 u45 u46 u47 u48 u49 u50 u51 u52 u53 u54 u55 u56 u57 u58 u59 u60 u61 u62 u63 u64 u65 u66 u67 u68 u69 u70 u71 u72 u73 u74 u75 u76 u77 u78 u79 u80 u81 u82 u83 u84 k q ad yy1 yy2 yy3 hq HN hn hl zz5 zz7 zz8 wo u14 u15 u16 u86 u87 u88 u89 u90 u91 u92 u93 u94 u95 yy4 yy5 yy6 yy7 yy8 yy9 yy10 yy11 yy12 yy13 yy14 yy15 yy16 yy17 yy18 yy19 yy20 yy21 yy22 yy23 yy24 yy25 yy26 yy27 yy28 yy29 yy30 yy31 yy32 yy33 yy34 yy35 yy36 yy37 yy38 yy39 yy40 yy41 yy42 yy43 yy44 yy45 yy46 yy47 yy48 yy49 yy50 yy51 yy52 yy53 yy54 yy55 yy56 yy57 yy58 yy59 yy60 yy61 yy62 yy63 yy64 yy65 yy66 yy67 yy68 yy69 yy70 yy71 yy72 yy73 yy74 yy75 yy76 yy77 yy78 yy79 yy80 yy81 yy82 yy83 yy84 u177 yy85 yy86 yy87 yy88 yy89 yy90 yy91 yy92 yy93 yy94 yy95 yy96 yy97 yy98 yy99 yy100 yy101 yy102 yy103 yy104 yy105 yy106 yy107 yy108 yy109 yy110 yy111 yy112 yy113 u207 u208 u209 u210 u211 u212 u213 u214 u215 u216 u217 u218 u219 u220 u221 u222 u223 p at' cd ct hqp hpk hlt b off hbl RL zz6 ve vl vk vp vn vz vb va hl1 m pg hm60 hp8 G XT lXT XD lXD TA TB DA DB sv gv TX' DX' AT2 bt bd hct hcd g1 g2 W LW yy114 yy115 yy116 wi u96 u97 u98 u99 u100 u101 u102 u103 u104 u105 u106 u107 u108 u109 u110 u111 wj u112 u113 u114 u115 u116 u117 u118 u119 u120 u121 u122 u123 u124 u125 NJ OTj ODj BXj low th w2 u126 u127 u128 u129 u130 u131 u132 u133 u134 u135 u136 u137 u138 u139 u140 u141 u142 u143 u144 u145 u146 u147 u148 u149 u150 u151 u152 u153 u154 u155 u156 u157 u158 u159 u160 u161 u162 u163 u164 u165 u166 u167 u168 u169 at2 ct2 u170 u171 u172 u173 u174 u175 u176 yy117 yy118 w3 u178 u179 u180 u181 u182 u183 u184 u185 u186 u187 u188 u189 u190 u191 u192 u193 yy119 yy120 hwj w4 u194 u195 u196 u197 u198 u199 u200 u201 u202 u203 u204 u205 u206 N_w4 OT_w4 OD_w4 BX_w4 y0 y1 y2 y3 y4 y5 y6 y7 y8 y9 hs D2' HX LX1 LX2 g5 g6 g7 hcc HNC
                          exact KZP6.out
    · have e : p = k := by omega
      subst e
      have TK : L.take p = L := List.take_of_length_le (by omega)
      rw [TK] at HD HT ⊢
      clear hlt TK
      go_wp2_with fail
      go_ret2
      exact ⟨⟨_, _, _, _, rfl, HD.out, HT.out⟩, BW.out⟩

end Go.Proofs.Ytimdoaehlciecaa
