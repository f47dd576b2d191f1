/-
  The levels of the program's parser: comparisons.
-/
import Derived.Test.YtbpfpjmjmkpjoaaGreatDoorZmk
namespace Go.Proofs.YtbpfpjmjmkpjoaaGreatDoor
open Go Go.RowKit
attribute [local go_sem ↓] Go.wp_at_zero Go.wp_at_succ

set_option linter.unusedVariables false
set_option linter.unusedSimpArgs false
def sLen (w : World) (g : Nat) : Nat := match w.cell? ⟨g, 0, none⟩ with
  | some (.slice _ n _) => n
  | _ => 0
theorem StI.sLen {g : Nat} {w : World} {T : List ByteArray} {n o : Nat} (h : StI g w T n o) : sLen w g = T.length := by
  obtain ⟨a, cap, h1, h2, hb, ht⟩ := h
  unfold YtbpfpjmjmkpjoaaGreatDoor.sLen
  rw [(box3 hb).1]
theorem Parses.fits {l : Lv} {o : Nat} {T : List ByteArray} {n : Nat} {r : Res} (h : Parses l o T n r) (hn : n ≤ 40) (h0 : l.ok0 = true) : r.fits := by
  have g := goes h hn h0
  cases r with
  | err c => trivial
  | ok p T1 n1 => exact g.2.2.1
theorem more_none {c : Ch} {o : Nat} {T : List ByteArray} {n : Nat} {p : PT} {r : Res} (h : Parses (.more c p) o T n r) (hk : sgn c.lo c.hi T = 0) : r = .ok p T n := by
  cases h with
  | mEnd _ => rfl
  | mErr h1 h2 _ => rw [hk] at h1; exact absurd h1.symm h2
  | mMany h1 h2 _ _ => rw [hk] at h1; exact absurd h1.symm h2
  | mOk h1 h2 _ _ _ => rw [hk] at h1; exact absurd h1.symm h2
theorem more_inv {c : Ch} {o : Nat} {T : List ByteArray} {n k : Nat} {p : PT} {r : Res} (h : Parses (.more c p) o T n r) (hk : sgn c.lo c.hi T = k) (k0 : k ≠ 0) (hn : n ≤ 40) (hp : p.ok = true) :
    ∃ r1, Parses c.sub o (T.drop 1) n r1 ∧ r1.fits ∧ ((∃ e, biR k p r1 = .err e ∧ r = .err e) ∨ ∃ p2 T2 n2, biR k p r1 = .ok p2 T2 n2 ∧ Parses (.more c p2) o T2 n2 r ∧ T2.length < T.length ∧ n2 ≤ 40 ∧ p2.ok = true) := by
  cases h with
  | mEnd h1 => rw [hk] at h1; exact absurd h1 k0
  | mErr h1 h2 h3 => exact ⟨_, h3, trivial, .inl ⟨_, rfl, rfl⟩⟩
  | mMany h1 h2 h3 h4 => exact ⟨_, h3, h3.fits hn (sub_more c).2.2, .inl ⟨_, by unfold biR; simp only [h4, if_true], rfl⟩⟩
  | @mOk _ _ _ T1 _ n1 _ q k' _ h1 h2 h3 h4 h5 =>
    rw [hk] at h1
    subst h1
    obtain ⟨kb, hl, _, _⟩ := sgn_in hk k0
    obtain ⟨⟨k1, e, hk1, hk2⟩, hc, _, hq⟩ := goes h3 hn (sub_more c).2.2
    have := hk2 (sub_more c).1
    have hd : (T.drop 1).length = T.length - 1 := List.length_drop
    refine ⟨_, h3, h3.fits hn (sub_more c).2.2, .inr ⟨_, _, _, by unfold biR; simp only [if_neg (show ¬ n1 = 40 by omega)], h5, ?_, by omega, ?_⟩⟩
    · rw [e, List.length_drop, hd]; omega
    · show (inB (k : Int) 6 13 && (p.ok && q.ok)) = true
      rw [kb, hp, hq]; rfl
/-- Where the loop of a chain stands: a part is read, and what is left; or a fault. -/
def ChRel (c : Ch) (g : Nat) (w : World) (T : List ByteArray) (o : Nat) (r : Res) (p x : Value) (wr : World) : Prop :=
  Below g w wr ∧ ((∃ q T1 n1, p = q.enc ∧ x = .int .i64 0 ∧ q.ok = true ∧ n1 ≤ 40 ∧ T1.length < T.length ∧ StI g wr T1 n1 o ∧ Parses (.more c q) o T1 n1 r) ∨
    (∃ e T1 n1, x = .int .i64 e ∧ ((e == 0) = false) ∧ r = .err e ∧ StI g wr T1 n1 o))
def ChM (g : Nat) (p x : Value) (wr : World) : Nat := if intOf x = 0 then sLen wr g + 1 else 0
set_option maxRecDepth 100000 in
set_option maxHeartbeats 8000000 in
theorem c_chain (c : Ch) (f : Nat) (he : Ent f) (g : Nat) (w : World) (T : List ByteArray) (n o : Nat) (r : Res) (h : StI g w T n o) (hT : TbG g w) (hn : n ≤ 40) (ho : o ≤ 48) (hp : Parses (.ch c) o T n r)
    (hs : ∀ T', T'.length ≤ T.length → IC f c.sub T') :
    Calls Tryz.prog 141 #[.pointer (some ⟨g, 0, none⟩), .int .i64 (c.lo : Int), .int .i64 (c.hi : Int), .func (Fn.func f) #[.pointer (some ⟨g, 0, none⟩)] #[]] w fun e w' => AnsR g o r e w' ∧ Below g w w' := by
  obtain ⟨r0, hp0, hp1⟩ : ∃ r0, Parses c.sub o T n r0 ∧ ((∃ e, r0 = .err e ∧ r = .err e) ∨ ∃ q T1 n1, r0 = .ok q T1 n1 ∧ Parses (.more c q) o T1 n1 r) := by
    cases hp with
    | chE h => exact ⟨_, h, .inl ⟨_, rfl, rfl⟩⟩
    | chO h h2 => exact ⟨_, h, .inr ⟨_, _, _, rfl, h2⟩⟩
  have hlo : 6 ≤ c.lo ∧ c.lo ≤ c.hi ∧ c.hi ≤ c.lo + 1 ∧ c.hi ≤ 13 := by cases c <;> decide
  have C := hs T (Nat.le_refl _) g w n o r0 h hT hn ho hp0
  have G := goes hp0 hn (sub_more c).2.2
  have HS : Hid (∀ T', T'.length ≤ T.length → IC f c.sub T') := hs
  have HT : Hid (TbG g w) := hT
  obtain ⟨lo, hLo⟩ : ∃ lo, c.lo = lo := ⟨_, rfl⟩
  obtain ⟨hi, hHi⟩ : ∃ hi, c.hi = hi := ⟨_, rfl⟩
  have HLo : Hid (c.lo = lo) := hLo
  have HHi : Hid (c.hi = hi) := hHi
  rw [hLo, hHi]
  rw [hLo, hHi] at hlo
  unfold Ent at he
  have HE : Hid (Ent f) := he
  clear hs hT h hp hLo hHi
  go_enter Tryz.func141, Tryz.ntmps141
  go_wp2_with fail
  refine C.mono ?_
  rintro e w1 ⟨hr, hb1⟩
  have HB1 : Hid (Below g w w1) := hb1
  clear C hb1
  have start : ∃ p x, e = .returned (.tuple #[p, x]) ∧ ((p = .nilIface ∨ ∃ t v, p = .iface t v) ∧ ∃ z, x = .int .i64 z) ∧ ChRel c g w T o r p x w1 := by
    rcases hp1 with ⟨e0, rfl, rfl⟩ | ⟨q, T1, n1, rfl, hm⟩
    · obtain ⟨rfl, h2, T1, n1, h3⟩ := hr
      exact ⟨_, _, rfl, ⟨.inl rfl, _, rfl⟩, HB1.out, .inr ⟨e0, T1, n1, rfl, h2, rfl, h3⟩⟩
    · obtain ⟨rfl, h3⟩ := hr
      obtain ⟨⟨k, hk, hk2, hk3⟩, _, h40, hq⟩ := G
      have := hk3 (sub_more c).1
      exact ⟨_, _, rfl, ⟨.inr (enc_if2 q), _, rfl⟩, HB1.out, .inl ⟨q, T1, n1, rfl, rfl, hq, h40, by rw [hk, List.length_drop]; omega, h3, hm⟩⟩
  obtain ⟨p, x, rfl, ⟨hpv, z, rfl⟩, hrel0⟩ := start
  have HR0 : Hid (ChRel c g w T o r p (.int .i64 z) w1) := hrel0
  clear hr hp1 hrel0 hp0 G
  go_wp2_with fail
  go_loopw [10, 11] (fun p x wr => ChRel c g w T o r p x wr) (fun p x wr => ChM g p x wr)
  case atStart => exact HR0.out
  case round =>
    obtain ⟨hb, hrel⟩ := hrel
    have HB : Hid (Below g w wr) := hb
    clear hb
    rcases hrel with ⟨q, T1, n1, rfl, rfl, hq, h40, hlt, hs1, hm⟩ | ⟨e0, T1, n1, rfl, hne, rfl, hs1⟩
    · have HS1 : Hid (StI g wr T1 n1 o) := hs1
      have C1 : Calls Tryz.prog 173 #[.pointer (some ⟨g, 0, none⟩), .int .i64 (lo : Int), .int .i64 (hi : Int)] wr (AnsS g wr T1 n1 o lo hi) := c_sgnP g wr T1 n1 o lo hi hs1 (HT.out.below HB.out) hlo.1 hlo.2.1 hlo.2.2.1 hlo.2.2.2
      obtain ⟨T8, z8, hz⟩ := enc_if2 q
      rw [hz]
      have HQ : Hid (q.enc = .iface T8 z8) := hz
      have HM : Hid (Parses (.more c q) o T1 n1 r) := hm
      clear hs1 hm hz
      go_wp2_with fail
      refine C1.mono ?_
      rintro e w2 ⟨k, rfl, hk, hs2, hb2⟩
      have HK : Hid (sgn lo hi T1 = k) := hk
      have HS2 : Hid (StI g w2 (if k = 0 then T1 else T1.drop 1) n1 o) := hs2
      have HB2 : Hid (Below g w w2) := HB.out.trans hb2
      clear C1 hk hs2 hb2
      by_cases k0 : k = 0
      · subst k0
        have E : Hid (r = .ok q T1 n1) := by
          exact more_none HM.out (by rw [HLo.out, HHi.out]; exact HK.out)
        go_wp2
        go_ret2
        rw [E.out]
        exact ⟨⟨by rw [HQ.out]; rfl, HS2.out⟩, HB2.out⟩
      · obtain ⟨r1, hp1, hf1, hcase⟩ := more_inv HM.out (by rw [HLo.out, HHi.out]; exact HK.out) k0 h40 hq
        have hs2 : StI g w2 (T1.drop 1) n1 o := by have := HS2.out; rwa [if_neg k0] at this
        have C2 := c_binary g w2 o f k q r1 HE.out hf1 (HS.out (T1.drop 1) (by rw [List.length_drop]; omega) g w2 n1 o r1 hs2 (HT.out.below HB2.out) h40 ho hp1)
        rw [HQ.out] at C2
        have k1 : ((k : Int) == 0) = false := by simp; omega
        have sl : sLen wr g = T1.length := HS1.out.sLen
        have HC : Hid ((∃ e, biR k q r1 = .err e ∧ r = .err e) ∨ ∃ p2 T2 n2, biR k q r1 = .ok p2 T2 n2 ∧ Parses (.more c p2) o T2 n2 r ∧ T2.length < T1.length ∧ n2 ≤ 40 ∧ p2.ok = true) := hcase
        have HSL : Hid (sLen wr g = T1.length) := sl
        have HLT : Hid (T1.length < T.length) := hlt
        clear hcase hp1 hf1 hs2 HE HS HM HS2 HS1 sl hq hlt
        go_wp2_with fail
        refine C2.mono ?_
        rintro e w3 ⟨hr3, hb3⟩
        have HB3 : Hid (Below g w w3) := HB2.out.trans hb3
        have start : ∃ p x, e = .returned (.tuple #[p, x]) ∧ ((p = .nilIface ∨ ∃ t v, p = .iface t v) ∧ ∃ z, x = .int .i64 z) ∧ ChRel c g w T o r p x w3 ∧ ChM g p x w3 < ChM g (.iface T8 z8) (.int .i64 0) wr := by
          have m0 : ChM g (.iface T8 z8) (.int .i64 0) wr = T1.length + 1 := by unfold ChM; rw [if_pos (show intOf (Value.int .i64 0) = 0 from rfl), HSL.out]
          rw [m0]
          rcases HC.out with ⟨e0, h1, h2⟩ | ⟨p2, T2, n2, h1, h2, h3, h4, h5⟩
          · rw [h1] at hr3
            obtain ⟨rfl, h6, T9, n9, h7⟩ := hr3
            have hne : ¬ e0 = 0 := by simpa using h6
            exact ⟨_, _, rfl, ⟨.inl rfl, _, rfl⟩, ⟨HB3.out, .inr ⟨e0, T9, n9, rfl, h6, h2, h7⟩⟩, by unfold ChM; rw [if_neg (by simpa [intOf] using hne)]; omega⟩
          · rw [h1] at hr3
            obtain ⟨rfl, h6⟩ := hr3
            have hl := HLT.out
            exact ⟨_, _, rfl, ⟨.inr (enc_if2 p2), _, rfl⟩, ⟨HB3.out, .inl ⟨p2, T2, n2, rfl, rfl, h5, h4, by omega, h6, h2⟩⟩, by unfold ChM; rw [if_pos (show intOf (Value.int .i64 0) = 0 from rfl), h6.sLen]; omega⟩
        obtain ⟨p, x, rfl, ⟨hpv, z, rfl⟩, hrel0, hm0⟩ := start
        have HR0 : Hid (ChRel c g w T o r p (.int .i64 z) w3) := hrel0
        have HM0 : Hid (ChM g p (.int .i64 z) w3 < ChM g (.iface T8 z8) (.int .i64 0) wr) := hm0
        clear hr3 hb3 hrel0 hm0 C2 HC
        go_wp2
        go_roundw
        case rel => exact HR0.out
        case measure => exact HM0.out
    · have HS1 : Hid (StI g wr T1 n1 o) := hs1
      have HN : Hid ((e0 == 0) = false) := hne
      clear hs1 HE
      go_wp2
      go_ret2
      exact ⟨⟨rfl, HN.out, T1, n1, HS1.out⟩, HB.out⟩

theorem ent142 : Ent 142 := enters_of (P := Tryz.prog) (fn := Tryz.f142) Tryz.func142 rfl rfl
theorem ent175 : Ent 175 := enters_of (P := Tryz.prog) (fn := Tryz.f175) Tryz.func175 rfl rfl
theorem ent242 : Ent 242 := enters_of (P := Tryz.prog) (fn := Tryz.f242) Tryz.func242 rfl rfl
theorem ent248 : Ent 248 := enters_of (P := Tryz.prog) (fn := Tryz.f248) Tryz.func248 rfl rfl
theorem ent80 : Ent 80 := enters_of (P := Tryz.prog) (fn := Tryz.f80) Tryz.func80 rfl rfl
theorem ent226 : Ent 226 := enters_of (P := Tryz.prog) (fn := Tryz.f226) Tryz.func226 rfl rfl
set_option maxRecDepth 100000 in
set_option maxHeartbeats 8000000 in
theorem ic_or (T : List ByteArray) (hs : ∀ T', T'.length ≤ T.length → IC 142 Ch.or.sub T') : IC 80 (.ch .or) T := by
  intro g w n o r h hT hn ho hp
  have C : Calls Tryz.prog 141 #[.pointer (some ⟨g, 0, none⟩), .int .i64 13, .int .i64 13, .func (Fn.func 142) #[.pointer (some ⟨g, 0, none⟩)] #[]] w fun e w' => AnsR g o r e w' ∧ Below g w w' := c_chain .or 142 ent142 g w T n o r h hT hn ho hp hs
  have hmf : ∀ (fn : Fn) (first cap : Array Value) (w : World), (Instr.makeFunc fn first cap).run Tryz.prog w = .ok (.func fn first cap) w := fun _ _ _ _ => rfl
  clear h hT hp hs
  go_enter Tryz.func80, Tryz.ntmps80
  go_wp2_with fail
  refine C.mono ?_
  rintro e w1 ⟨hr, hb1⟩
  have HB : Hid (Below g w w1) := hb1
  clear C hb1
  cases r with
  | err c =>
    obtain ⟨rfl, hr⟩ := hr
    have HR : Hid (((c == 0) = false) ∧ ∃ T n, StI g w1 T n o) := hr
    clear hr
    go_wp2
    go_ret2
    exact ⟨⟨rfl, HR.out.1, HR.out.2⟩, HB.out⟩
  | ok p T1 n1 =>
    obtain ⟨rfl, hr⟩ := hr
    have HR : Hid (StI g w1 T1 n1 o) := hr
    clear hr
    go_wp2
    go_ret2
    exact ⟨⟨rfl, HR.out⟩, HB.out⟩
set_option maxRecDepth 100000 in
set_option maxHeartbeats 8000000 in
theorem ic_and (T : List ByteArray) (hs : ∀ T', T'.length ≤ T.length → IC 175 Ch.and.sub T') : IC 142 (.ch .and) T := by
  intro g w n o r h hT hn ho hp
  have C : Calls Tryz.prog 141 #[.pointer (some ⟨g, 0, none⟩), .int .i64 12, .int .i64 12, .func (Fn.func 175) #[.pointer (some ⟨g, 0, none⟩)] #[]] w fun e w' => AnsR g o r e w' ∧ Below g w w' := c_chain .and 175 ent175 g w T n o r h hT hn ho hp hs
  have hmf : ∀ (fn : Fn) (first cap : Array Value) (w : World), (Instr.makeFunc fn first cap).run Tryz.prog w = .ok (.func fn first cap) w := fun _ _ _ _ => rfl
  clear h hT hp hs
  go_enter Tryz.func142, Tryz.ntmps142
  go_wp2_with fail
  refine C.mono ?_
  rintro e w1 ⟨hr, hb1⟩
  have HB : Hid (Below g w w1) := hb1
  clear C hb1
  cases r with
  | err c =>
    obtain ⟨rfl, hr⟩ := hr
    have HR : Hid (((c == 0) = false) ∧ ∃ T n, StI g w1 T n o) := hr
    clear hr
    go_wp2
    go_ret2
    exact ⟨⟨rfl, HR.out.1, HR.out.2⟩, HB.out⟩
  | ok p T1 n1 =>
    obtain ⟨rfl, hr⟩ := hr
    have HR : Hid (StI g w1 T1 n1 o) := hr
    clear hr
    go_wp2
    go_ret2
    exact ⟨⟨rfl, HR.out⟩, HB.out⟩
set_option maxRecDepth 100000 in
set_option maxHeartbeats 8000000 in
theorem ic_sum (T : List ByteArray) (hs : ∀ T', T'.length ≤ T.length → IC 242 Ch.sum.sub T') : IC 226 (.ch .sum) T := by
  intro g w n o r h hT hn ho hp
  have C : Calls Tryz.prog 141 #[.pointer (some ⟨g, 0, none⟩), .int .i64 6, .int .i64 7, .func (Fn.func 242) #[.pointer (some ⟨g, 0, none⟩)] #[]] w fun e w' => AnsR g o r e w' ∧ Below g w w' := c_chain .sum 242 ent242 g w T n o r h hT hn ho hp hs
  have hmf : ∀ (fn : Fn) (first cap : Array Value) (w : World), (Instr.makeFunc fn first cap).run Tryz.prog w = .ok (.func fn first cap) w := fun _ _ _ _ => rfl
  clear h hT hp hs
  go_enter Tryz.func226, Tryz.ntmps226
  go_wp2_with fail
  refine C.mono ?_
  rintro e w1 ⟨hr, hb1⟩
  have HB : Hid (Below g w w1) := hb1
  clear C hb1
  cases r with
  | err c =>
    obtain ⟨rfl, hr⟩ := hr
    have HR : Hid (((c == 0) = false) ∧ ∃ T n, StI g w1 T n o) := hr
    clear hr
    go_wp2
    go_ret2
    exact ⟨⟨rfl, HR.out.1, HR.out.2⟩, HB.out⟩
  | ok p T1 n1 =>
    obtain ⟨rfl, hr⟩ := hr
    have HR : Hid (StI g w1 T1 n1 o) := hr
    clear hr
    go_wp2
    go_ret2
    exact ⟨⟨rfl, HR.out⟩, HB.out⟩
set_option maxRecDepth 100000 in
set_option maxHeartbeats 8000000 in
theorem ic_mul (T : List ByteArray) (hs : ∀ T', T'.length ≤ T.length → IC 248 Ch.mul.sub T') : IC 242 (.ch .mul) T := by
  intro g w n o r h hT hn ho hp
  have C : Calls Tryz.prog 141 #[.pointer (some ⟨g, 0, none⟩), .int .i64 8, .int .i64 9, .func (Fn.func 248) #[.pointer (some ⟨g, 0, none⟩)] #[]] w fun e w' => AnsR g o r e w' ∧ Below g w w' := c_chain .mul 248 ent248 g w T n o r h hT hn ho hp hs
  have hmf : ∀ (fn : Fn) (first cap : Array Value) (w : World), (Instr.makeFunc fn first cap).run Tryz.prog w = .ok (.func fn first cap) w := fun _ _ _ _ => rfl
  clear h hT hp hs
  go_enter Tryz.func242, Tryz.ntmps242
  go_wp2_with fail
  refine C.mono ?_
  rintro e w1 ⟨hr, hb1⟩
  have HB : Hid (Below g w w1) := hb1
  clear C hb1
  cases r with
  | err c =>
    obtain ⟨rfl, hr⟩ := hr
    have HR : Hid (((c == 0) = false) ∧ ∃ T n, StI g w1 T n o) := hr
    clear hr
    go_wp2
    go_ret2
    exact ⟨⟨rfl, HR.out.1, HR.out.2⟩, HB.out⟩
  | ok p T1 n1 =>
    obtain ⟨rfl, hr⟩ := hr
    have HR : Hid (StI g w1 T1 n1 o) := hr
    clear hr
    go_wp2
    go_ret2
    exact ⟨⟨rfl, HR.out⟩, HB.out⟩

end Go.Proofs.YtbpfpjmjmkpjoaaGreatDoor
namespace Go.Proofs.YtbpfpjmjmkpjoaaGreatDoor
open Go Go.RowKit
attribute [local go_sem ↓] Go.wp_at_zero Go.wp_at_succ

set_option linter.unusedVariables false
set_option linter.unusedSimpArgs false
theorem den_inv {o : Nat} {T : List ByteArray} {n : Nat} {r : Res} (h : Parses .den o T n r) (hn : n ≤ 40) :
    (nxt T = wNot ∧ o = 48 ∧ r = .err 16) ∨ (nxt T = wNot ∧ o < 48 ∧ ∃ r1, Parses .den (o + 1) (T.drop 1) n r1 ∧ r1.fits ∧ r = unR 3 r1) ∨ (nxt T ≠ wNot ∧ Parses .cmp o T n r) := by
  cases h with
  | dDeep h1 h2 => exact .inl ⟨h1, h2, rfl⟩
  | dErr h1 h2 h3 => exact .inr (.inl ⟨h1, h2, _, h3, trivial, rfl⟩)
  | dMany h1 h2 h3 h4 => exact .inr (.inl ⟨h1, h2, _, h3, h3.fits hn rfl, by unfold unR; simp only [h4, if_true]⟩)
  | @dOk _ _ T1 _ n1 p h1 h2 h3 h4 => exact .inr (.inl ⟨h1, h2, _, h3, h3.fits hn rfl, by unfold unR; simp only [if_neg (show ¬ n1 = 40 by omega)]⟩)
  | dC h1 h2 => exact .inr (.inr ⟨h1, h2⟩)
/-- The answer of a level that hands on what another one answers. -/
theorem AnsR.tup {g o : Nat} {r : Res} {e : Ending} {w' : World} (h : AnsR g o r e w') : ∃ p x, e = .returned (.tuple #[p, x]) ∧ (p = .nilIface ∨ ∃ t v, p = .iface t v) ∧ (∃ z, x = .int .i64 z) ∧ AnsR g o r (.returned (.tuple #[p, x])) w' := by
  cases r with
  | err c => obtain ⟨rfl, h2⟩ := h; exact ⟨_, _, rfl, .inl rfl, ⟨_, rfl⟩, rfl, h2⟩
  | ok p T n => obtain ⟨rfl, h2⟩ := h; exact ⟨_, _, rfl, .inr (enc_if2 p), ⟨_, rfl⟩, rfl, h2⟩
set_option maxRecDepth 100000 in
set_option maxHeartbeats 8000000 in
theorem ic_den (T : List ByteArray) (hc : IC 204 .cmp T) (hs : ∀ T', T'.length < T.length → IC 175 .den T') : IC 175 .den T := by
  intro g w n o r h hT hn ho hp
  have hmf : ∀ (fn : Fn) (first cap : Array Value) (w : World), (Instr.makeFunc fn first cap).run Tryz.prog w = .ok (.func fn first cap) w := fun _ _ _ _ => rfl
  rcases den_inv hp hn with ⟨h1, h2, rfl⟩ | ⟨h1, h2, r1, h3, h4, rfl⟩ | ⟨h1, h2⟩
  · have hl := nxt_pos h1 (by decide)
    have C : Calls Tryz.prog 92 #[.pointer (some ⟨g, 0, none⟩), .string ⟨#[110, 111, 116]⟩] w fun e w' => e = .returned (.bool true) ∧ StI g w' (T.drop 1) n o ∧ Below g w w' := c_takesY g w T n o wNot h h1 hl
    clear hp h hT
    go_enter Tryz.func175, Tryz.ntmps175
    go_wp2_with fail
    refine C.mono ?_
    rintro e w1 ⟨rfl, hs1, hb1⟩
    have C2 := c_unaryD g w1 (T.drop 1) n o 3 (.func (Fn.func 175) #[.pointer (some ⟨g, 0, none⟩)] #[]) hs1 h2
    have HB : Hid (Below g w w1) := hb1
    clear C hs1 hb1 h1 hs
    go_wp2_with fail
    refine C2.mono ?_
    rintro e w2 ⟨hr, hb2⟩
    obtain ⟨p, x, rfl, _, ⟨z, rfl⟩, hr⟩ := hr.tup
    have HR : Hid (AnsR g o (.err 16) (.returned (.tuple #[p, .int .i64 z])) w2) := hr
    have HB2 : Hid (Below g w w2) := HB.out.trans hb2
    clear C2 hb2 hr
    go_wp2
    go_ret2
    exact ⟨HR.out, HB2.out⟩
  · have hl := nxt_pos h1 (by decide)
    have C : Calls Tryz.prog 92 #[.pointer (some ⟨g, 0, none⟩), .string ⟨#[110, 111, 116]⟩] w fun e w' => e = .returned (.bool true) ∧ StI g w' (T.drop 1) n o ∧ Below g w w' := c_takesY g w T n o wNot h h1 hl
    have HT : Hid (TbG g w) := hT
    have HD : Hid (IC 175 .den (T.drop 1)) := hs (T.drop 1) (by rw [List.length_drop]; omega)
    have HP : Hid (Parses .den (o + 1) (T.drop 1) n r1 ∧ r1.fits) := ⟨h3, h4⟩
    clear hp h hT hs h3 h4 h1
    go_enter Tryz.func175, Tryz.ntmps175
    go_wp2_with fail
    refine C.mono ?_
    rintro e w1 ⟨rfl, hs1, hb1⟩
    have HB : Hid (Below g w w1) := hb1
    have C2 := c_unary g w1 (T.drop 1) n o 175 3 r1 hs1 h2 ent175 HP.out.2 (fun w3 a b => HD.out g w3 n (o + 1) r1 a ((HT.out.below HB.out).below b) hn (by omega) HP.out.1)
    clear C hs1 hb1
    go_wp2_with fail
    refine C2.mono ?_
    rintro e w2 ⟨hr, hb2⟩
    obtain ⟨p, x, rfl, _, ⟨z, rfl⟩, hr⟩ := hr.tup
    have HR : Hid (AnsR g o (unR 3 r1) (.returned (.tuple #[p, .int .i64 z])) w2) := hr
    have HB2 : Hid (Below g w w2) := HB.out.trans hb2
    clear C2 hb2 hr
    go_wp2
    go_ret2
    exact ⟨HR.out, HB2.out⟩
  · have C : Calls Tryz.prog 92 #[.pointer (some ⟨g, 0, none⟩), .string ⟨#[110, 111, 116]⟩] w fun e w' => e = .returned (.bool false) ∧ w' = w := c_takesN wNot g w T n o h h1
    have C2 := hc g w n o r h hT hn ho h2
    clear hp h hT hs h1 h2
    go_enter Tryz.func175, Tryz.ntmps175
    go_wp2_with fail
    refine C.mono ?_
    rintro e w1 ⟨rfl, rfl⟩
    clear C
    go_wp2_with fail
    refine C2.mono ?_
    rintro e w2 ⟨hr, hb2⟩
    obtain ⟨p, x, rfl, _, ⟨z, rfl⟩, hr⟩ := hr.tup
    have HR : Hid (AnsR g o r (.returned (.tuple #[p, .int .i64 z])) w2) := hr
    have HB2 : Hid (Below g w1 w2) := hb2
    clear C2 hb2 hr
    go_wp2
    go_ret2
    exact ⟨HR.out, HB2.out⟩

end Go.Proofs.YtbpfpjmjmkpjoaaGreatDoor
namespace Go.Proofs.YtbpfpjmjmkpjoaaGreatDoor
open Go Go.RowKit
attribute [local go_sem ↓] Go.wp_at_zero Go.wp_at_succ

set_option linter.unusedVariables false
set_option linter.unusedSimpArgs false
theorem cmp_inv {o : Nat} {T : List ByteArray} {n : Nat} {r : Res} (h : Parses .cmp o T n r) (hn : n ≤ 40) :
    ∃ r0, Parses (.ch .sum) o T n r0 ∧ ((∃ e, r0 = .err e ∧ r = .err e) ∨ ∃ p T1 n1, r0 = .ok p T1 n1 ∧ n1 ≤ 40 ∧ T1.length < T.length ∧ ((nxt T1 = wIs ∧ nxt (T1.drop 1) ≠ wNull ∧ r = .err 3) ∨
      (nxt T1 = wIs ∧ nxt (T1.drop 1) = wNull ∧ n1 = 40 ∧ r = .err 6) ∨ (nxt T1 = wIs ∧ nxt (T1.drop 1) = wNull ∧ n1 < 40 ∧ r = .ok (.una 4 p) (T1.drop 2) (n1 + 1)) ∨
      (nxt T1 ≠ wIs ∧ ∃ k, sgn 10 11 T1 = k ∧ k ≠ 0 ∧ 1 ≤ T1.length ∧ ∃ r1, Parses (.ch .sum) o (T1.drop 1) n1 r1 ∧ r1.fits ∧ r = biR (k : Int) p r1) ∨
      (nxt T1 ≠ wIs ∧ sgn 10 11 T1 = 0 ∧ r = .ok p T1 n1))) := by
  have fr : ∀ {p : PT} {T1 : List ByteArray} {n1 : Nat}, Parses (.ch .sum) o T n (.ok p T1 n1) → n1 ≤ 40 ∧ T1.length < T.length := fun h => by
    obtain ⟨⟨k, e, hk, hk1⟩, _, h40, _⟩ := goes h hn rfl
    have := hk1 rfl
    exact ⟨h40, by rw [e, List.length_drop]; omega⟩
  cases h with
  | cE h1 => exact ⟨_, h1, .inl ⟨_, rfl, rfl⟩⟩
  | cIsF h1 h2 h3 => exact ⟨_, h1, .inr ⟨_, _, _, rfl, (fr h1).1, (fr h1).2, .inl ⟨h2, h3, rfl⟩⟩⟩
  | cIsM h1 h2 h3 h4 => exact ⟨_, h1, .inr ⟨_, _, _, rfl, (fr h1).1, (fr h1).2, .inr (.inl ⟨h2, h3, h4, rfl⟩)⟩⟩
  | cIs h1 h2 h3 h4 => exact ⟨_, h1, .inr ⟨_, _, _, rfl, (fr h1).1, (fr h1).2, .inr (.inr (.inl ⟨h2, h3, h4, rfl⟩))⟩⟩
  | cQE h1 h2 h3 h4 h5 => exact ⟨_, h1, .inr ⟨_, _, _, rfl, (fr h1).1, (fr h1).2, .inr (.inr (.inr (.inl ⟨h2, _, h3, h4, (sgn_in2 h3 h4).2.1, _, h5, trivial, rfl⟩)))⟩⟩
  | cQM h1 h2 h3 h4 h5 h6 => exact ⟨_, h1, .inr ⟨_, _, _, rfl, (fr h1).1, (fr h1).2, .inr (.inr (.inr (.inl ⟨h2, _, h3, h4, (sgn_in2 h3 h4).2.1, _, h5, h5.fits (fr h1).1 rfl, by unfold biR; simp only [h6, if_true]⟩)))⟩⟩
  | @cQ _ _ T1 T2 _ n1 n2 k p q h1 h2 h3 h4 h5 h6 => exact ⟨_, h1, .inr ⟨_, _, _, rfl, (fr h1).1, (fr h1).2, .inr (.inr (.inr (.inl ⟨h2, _, h3, h4, (sgn_in2 h3 h4).2.1, _, h5, h5.fits (fr h1).1 rfl, by unfold biR; simp only [if_neg (show ¬ n2 = 40 by omega)]⟩)))⟩⟩
  | c0 h1 h2 h3 => exact ⟨_, h1, .inr ⟨_, _, _, rfl, (fr h1).1, (fr h1).2, .inr (.inr (.inr (.inr ⟨h2, h3, rfl⟩)))⟩⟩
set_option maxRecDepth 100000 in
set_option maxHeartbeats 8000000 in
theorem ic_cmp (T : List ByteArray) (hs : ∀ T', T'.length ≤ T.length → IC 226 (.ch .sum) T') : IC 204 .cmp T := by
  intro g w n o r h hT hn ho hp
  have hmf : ∀ (fn : Fn) (first cap : Array Value) (w : World), (Instr.makeFunc fn first cap).run Tryz.prog w = .ok (.func fn first cap) w := fun _ _ _ _ => rfl
  obtain ⟨r0, h0, hc⟩ := cmp_inv hp hn
  have C := hs T (Nat.le_refl _) g w n o r0 h hT hn ho h0
  have HT : Hid (TbG g w) := hT
  have HS : Hid (∀ T', T'.length ≤ T.length → IC 226 (.ch .sum) T') := hs
  clear h hT hp hs h0
  rcases hc with ⟨e0, rfl, rfl⟩ | ⟨p, T1, n1, rfl, h40, hlt, hc⟩
  · go_enter Tryz.func204, Tryz.ntmps204
    go_wp2_with fail
    refine C.mono ?_
    rintro e w1 ⟨⟨rfl, hne, hs1⟩, hb1⟩
    have HN : Hid ((e0 == 0) = false) := hne
    have HS1 : Hid (∃ T n, StI g w1 T n o) := hs1
    have HB1 : Hid (Below g w w1) := hb1
    clear hs1 hb1 C
    go_wp2
    go_ret2
    exact ⟨⟨rfl, HN.out, HS1.out⟩, HB1.out⟩
  · obtain ⟨T8, z8, hz⟩ := enc_if2 p
    have HQ : Hid (p.enc = .iface T8 z8) := hz
    have HLT : Hid (T1.length < T.length) := hlt
    have HC : Hid ((nxt T1 = wIs ∧ nxt (T1.drop 1) ≠ wNull ∧ r = .err 3) ∨
      (nxt T1 = wIs ∧ nxt (T1.drop 1) = wNull ∧ n1 = 40 ∧ r = .err 6) ∨ (nxt T1 = wIs ∧ nxt (T1.drop 1) = wNull ∧ n1 < 40 ∧ r = .ok (.una 4 p) (T1.drop 2) (n1 + 1)) ∨
      (nxt T1 ≠ wIs ∧ ∃ k, sgn 10 11 T1 = k ∧ k ≠ 0 ∧ 1 ≤ T1.length ∧ ∃ r1, Parses (.ch .sum) o (T1.drop 1) n1 r1 ∧ r1.fits ∧ r = biR (k : Int) p r1) ∨
      (nxt T1 ≠ wIs ∧ sgn 10 11 T1 = 0 ∧ r = .ok p T1 n1)) := hc
    clear hz hlt hc
    go_enter Tryz.func204, Tryz.ntmps204
    go_wp2_with fail
    refine C.mono ?_
    rintro e w1 ⟨⟨rfl, hs1⟩, hb1⟩
    rw [HQ.out]
    have HS1 : Hid (StI g w1 T1 n1 o) := hs1
    have HB1 : Hid (Below g w w1) := hb1
    clear hs1 hb1 C
    rcases HC.out with ⟨h1, h2, rfl⟩ | ⟨h1, h2, h3, rfl⟩ | ⟨h1, h2, h3, rfl⟩ | ⟨h1, k, hk, k0, hl, r1, h3, h4, rfl⟩ | ⟨h1, h2, rfl⟩
    · have hl := nxt_pos h1 (by decide)
      have C2 : Calls Tryz.prog 92 #[.pointer (some ⟨g, 0, none⟩), .string ⟨#[105, 115]⟩] w1 fun e w' => e = .returned (.bool true) ∧ StI g w' (T1.drop 1) n1 o ∧ Below g w1 w' := c_takesY g w1 T1 n1 o wIs HS1.out h1 hl
      have H2 : Hid (nxt (T1.drop 1) ≠ wNull) := h2
      clear HC h1 h2
      go_wp2_with fail
      refine C2.mono ?_
      rintro e w2 ⟨rfl, hs2, hb2⟩
      have HS2 : Hid (StI g w2 (T1.drop 1) n1 o) := hs2
      have HB2 : Hid (Below g w w2) := HB1.out.trans hb2
      clear hs2 hb2 C2
      have C3 : Calls Tryz.prog 92 #[.pointer (some ⟨g, 0, none⟩), .string ⟨#[110, 117, 108, 108]⟩] w2 fun e w' => e = .returned (.bool false) ∧ w' = w2 := c_takesN wNull g w2 (T1.drop 1) n1 o HS2.out H2.out
      go_wp2_with fail
      refine C3.mono ?_
      rintro e w3 ⟨rfl, rfl⟩
      go_wp2
      go_ret2
      exact ⟨⟨rfl, by decide, _, _, HS2.out⟩, HB2.out⟩
    · have hl := nxt_pos h1 (by decide)
      have C2 : Calls Tryz.prog 92 #[.pointer (some ⟨g, 0, none⟩), .string ⟨#[105, 115]⟩] w1 fun e w' => e = .returned (.bool true) ∧ StI g w' (T1.drop 1) n1 o ∧ Below g w1 w' := c_takesY g w1 T1 n1 o wIs HS1.out h1 hl
      have H2 : Hid (nxt (T1.drop 1) = wNull) := h2
      clear HC h1 h2
      go_wp2_with fail
      refine C2.mono ?_
      rintro e w2 ⟨rfl, hs2, hb2⟩
      have HS2 : Hid (StI g w2 (T1.drop 1) n1 o) := hs2
      have HB2 : Hid (Below g w w2) := HB1.out.trans hb2
      clear hs2 hb2 C2
      have C3 : Calls Tryz.prog 92 #[.pointer (some ⟨g, 0, none⟩), .string ⟨#[110, 117, 108, 108]⟩] w2 fun e w' => e = .returned (.bool true) ∧ StI g w' ((T1.drop 1).drop 1) n1 o ∧ Below g w2 w' := c_takesY g w2 (T1.drop 1) n1 o wNull HS2.out H2.out (nxt_pos H2.out (by decide))
      go_wp2_with fail
      refine C3.mono ?_
      rintro e w3 ⟨rfl, hs3, hb3⟩
      have HS3 : Hid (StI g w3 (T1.drop 2) n1 o) := by rw [List.drop_drop] at hs3; exact hs3
      have HB3 : Hid (Below g w w3) := HB2.out.trans hb3
      clear hs3 hb3 C3
      have C4 := c_madeM g w3 (T1.drop 2) n1 o (.iface 130 (.agg #[.int .i64 4, .iface T8 z8])) HS3.out h3
      clear h3
      go_wp2_with fail
      refine C4.mono ?_
      rintro e w4 ⟨rfl, rfl⟩
      go_wp2
      go_ret2
      exact ⟨⟨rfl, by decide, _, _, HS3.out⟩, HB3.out⟩
    · have hl := nxt_pos h1 (by decide)
      have C2 : Calls Tryz.prog 92 #[.pointer (some ⟨g, 0, none⟩), .string ⟨#[105, 115]⟩] w1 fun e w' => e = .returned (.bool true) ∧ StI g w' (T1.drop 1) n1 o ∧ Below g w1 w' := c_takesY g w1 T1 n1 o wIs HS1.out h1 hl
      have H2 : Hid (nxt (T1.drop 1) = wNull) := h2
      clear HC h1 h2
      go_wp2_with fail
      refine C2.mono ?_
      rintro e w2 ⟨rfl, hs2, hb2⟩
      have HS2 : Hid (StI g w2 (T1.drop 1) n1 o) := hs2
      have HB2 : Hid (Below g w w2) := HB1.out.trans hb2
      clear hs2 hb2 C2
      have C3 : Calls Tryz.prog 92 #[.pointer (some ⟨g, 0, none⟩), .string ⟨#[110, 117, 108, 108]⟩] w2 fun e w' => e = .returned (.bool true) ∧ StI g w' ((T1.drop 1).drop 1) n1 o ∧ Below g w2 w' := c_takesY g w2 (T1.drop 1) n1 o wNull HS2.out H2.out (nxt_pos H2.out (by decide))
      go_wp2_with fail
      refine C3.mono ?_
      rintro e w3 ⟨rfl, hs3, hb3⟩
      have HS3 : Hid (StI g w3 (T1.drop 2) n1 o) := by rw [List.drop_drop] at hs3; exact hs3
      have HB3 : Hid (Below g w w3) := HB2.out.trans hb3
      clear hs3 hb3 C3
      have C4 := c_made g w3 (T1.drop 2) n1 o (.iface 130 (.agg #[.int .i64 4, .iface T8 z8])) HS3.out h3
      have HY : Hid ((PT.una 4 p).enc = .iface 130 (.agg #[.int .i64 4, .iface T8 z8])) := by unfold Hid; rw [← HQ.out]; rfl
      clear h3
      go_wp2_with fail
      refine C4.mono ?_
      rintro e w4 ⟨rfl, hs4, hb4⟩
      have HS4 : Hid (StI g w4 (T1.drop 2) (n1 + 1) o) := hs4
      have HB4 : Hid (Below g w w4) := HB3.out.trans hb4
      clear hs4 hb4 C4
      go_wp2
      go_ret2
      exact ⟨⟨by rw [HY.out]; rfl, HS4.out⟩, HB4.out⟩
    · have HK : Hid (sgn 10 11 T1 = k) := hk
      have HP : Hid (Parses (.ch .sum) o (T1.drop 1) n1 r1 ∧ r1.fits) := ⟨h3, h4⟩
      clear hk h3 h4
      have C2 : Calls Tryz.prog 92 #[.pointer (some ⟨g, 0, none⟩), .string ⟨#[105, 115]⟩] w1 fun e w' => e = .returned (.bool false) ∧ w' = w1 := c_takesN wIs g w1 T1 n1 o HS1.out h1
      have CS : Calls Tryz.prog 173 #[.pointer (some ⟨g, 0, none⟩), .int .i64 10, .int .i64 11] w1 (AnsS g w1 T1 n1 o 10 11) := c_sgnP g w1 T1 n1 o 10 11 HS1.out (HT.out.below HB1.out) (by decide) (by decide) (by decide) (by decide)
      clear HC h1
      go_wp2_with fail
      refine C2.mono ?_
      rintro e w2 ⟨rfl, rfl⟩
      clear C2
      go_wp2_with fail
      refine CS.mono ?_
      rintro e w3 ⟨k9, rfl, hk9, hs3, hb3⟩
      obtain rfl : k = k9 := HK.out.symm.trans hk9
      have HS3 : Hid (StI g w3 (T1.drop 1) n1 o) := by rw [if_neg k0] at hs3; exact hs3
      have HB3 : Hid (Below g w w3) := HB1.out.trans hb3
      clear hs3 hb3 CS hk9
      have k1 : ((k : Int) == 0) = false := by simp; omega
      have C4 := c_binary g w3 o 226 k p r1 ent226 HP.out.2 (HS.out (T1.drop 1) (by rw [List.length_drop]; have := HLT.out; omega) g w3 n1 o r1 HS3.out (HT.out.below HB3.out) h40 ho HP.out.1)
      rw [HQ.out] at C4
      go_wp2_with fail
      refine C4.mono ?_
      rintro e w4 ⟨hr, hb4⟩
      obtain ⟨p9, x9, rfl, _, ⟨z9, rfl⟩, hr⟩ := hr.tup
      have HR9 : Hid (AnsR g o (biR (k : Int) p r1) (.returned (.tuple #[p9, .int .i64 z9])) w4) := hr
      have HB9 : Hid (Below g w w4) := HB3.out.trans hb4
      clear hr
      go_wp2
      go_ret2
      exact ⟨HR9.out, HB9.out⟩
    · have HK : Hid (sgn 10 11 T1 = 0) := h2
      clear h2
      have C2 : Calls Tryz.prog 92 #[.pointer (some ⟨g, 0, none⟩), .string ⟨#[105, 115]⟩] w1 fun e w' => e = .returned (.bool false) ∧ w' = w1 := c_takesN wIs g w1 T1 n1 o HS1.out h1
      have CS : Calls Tryz.prog 173 #[.pointer (some ⟨g, 0, none⟩), .int .i64 10, .int .i64 11] w1 (AnsS g w1 T1 n1 o 10 11) := c_sgnP g w1 T1 n1 o 10 11 HS1.out (HT.out.below HB1.out) (by decide) (by decide) (by decide) (by decide)
      clear HC h1
      go_wp2_with fail
      refine C2.mono ?_
      rintro e w2 ⟨rfl, rfl⟩
      clear C2
      go_wp2_with fail
      refine CS.mono ?_
      rintro e w3 ⟨k9, rfl, hk9, hs3, hb3⟩
      obtain rfl : k9 = 0 := hk9.symm.trans HK.out
      have HS3 : Hid (StI g w3 T1 n1 o) := by rw [if_pos rfl] at hs3; exact hs3
      have HB3 : Hid (Below g w w3) := HB1.out.trans hb3
      clear hs3 hb3 CS hk9
      go_wp2
      go_ret2
      exact ⟨⟨by rw [HQ.out]; rfl, HS3.out⟩, HB3.out⟩

end Go.Proofs.YtbpfpjmjmkpjoaaGreatDoor
