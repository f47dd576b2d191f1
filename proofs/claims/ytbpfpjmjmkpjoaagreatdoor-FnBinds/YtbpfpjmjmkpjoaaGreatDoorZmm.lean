/-
  The law of FnBinds.
-/
import Derived.Test.YtbpfpjmjmkpjoaaGreatDoorQb
import Derived.Test.YtbpfpjmjmkpjoaaGreatDoorZmf
import Derived.Deep.RegionHeld3
import Derived.Deep.DrawnRows
import Derived.Laws.BytesArg
import Derived.Lib.Strings
import Derived.Deep.RegionWith
namespace Go.Proofs.YtbpfpjmjmkpjoaaGreatDoor
open Go Go.RowKit

set_option linter.unusedVariables false
set_option linter.unusedSimpArgs false
def pf : Nat → Lv → Nat → List ByteArray → Nat → Option Res
  | 0, _, _, _, _ => none
  | f + 1, .ch c, o, T, n => match pf f c.sub o T n with
    | none => none
    | some (.err e) => some (.err e)
    | some (.ok p T1 n1) => pf f (.more c p) o T1 n1
  | f + 1, .more c p, o, T, n => if sgn c.lo c.hi T = 0 then some (.ok p T n) else match pf f c.sub o (T.drop 1) n with
    | none => none
    | some (.err e) => some (.err e)
    | some (.ok q T1 n1) => if n1 = 40 then some (.err 6) else if n1 < 40 then pf f (.more c (.bin (sgn c.lo c.hi T : Nat) p q)) o T1 (n1 + 1) else none
  | f + 1, .den, o, T, n => if nxt T = wNot then (if o < 48 then (match pf f .den (o + 1) (T.drop 1) n with
      | none => none
      | some (.err e) => some (.err e)
      | some (.ok p T1 n1) => if n1 = 40 then some (.err 6) else if n1 < 40 then some (.ok (.una 3 p) T1 (n1 + 1)) else none) else none)
    else pf f .cmp o T n
  | f + 1, .cmp, o, T, n => match pf f (.ch .sum) o T n with
    | none => none
    | some (.err e) => some (.err e)
    | some (.ok p T1 n1) => if nxt T1 = wIs then (if nxt (T1.drop 1) = wNull then (if n1 = 40 then some (.err 6) else if n1 < 40 then some (.ok (.una 4 p) (T1.drop 2) (n1 + 1)) else none) else some (.err 3))
      else if sgn 10 11 T1 = 0 then some (.ok p T1 n1) else match pf f (.ch .sum) o (T1.drop 1) n1 with
        | none => none
        | some (.err e) => some (.err e)
        | some (.ok q T2 n2) => if n2 = 40 then some (.err 6) else if n2 < 40 then some (.ok (.bin (sgn 10 11 T1 : Nat) p q) T2 (n2 + 1)) else none
  | f + 1, .neg, o, T, n => match vAt T with
    | some (v, T1) => if n = 40 then some (.err 6) else if n < 40 then some (.ok (.con v.k v.n v.t) T1 (n + 1)) else none
    | none => if nxt T = wMin then (if o < 48 then (match pf f .neg (o + 1) (T.drop 1) n with
        | none => none
        | some (.err e) => some (.err e)
        | some (.ok p T1 n1) => if n1 = 40 then some (.err 6) else if n1 < 40 then some (.ok (.una 5 p) T1 (n1 + 1)) else none) else none)
      else pf f .pri o T n
  | f + 1, .pri, o, T, n => if nxt T = wOp then (if o < 48 then (match pf f (.ch .or) (o + 1) (T.drop 1) n with
      | none => none
      | some (.err e) => some (.err e)
      | some (.ok p T1 n1) => if nxt T1 = wCl then some (.ok p (T1.drop 1) n1) else some (.err 3)) else none)
    else match colOf (nxt T) with
      | none => some (.err 3)
      | some k => if n = 40 then some (.err 6) else if n < 40 then some (.ok (.col (k : Int)) (T.drop 1) (n + 1)) else none
theorem pf_sound : ∀ (f : Nat) (l : Lv) (o : Nat) (T : List ByteArray) (n : Nat) (r : Res), pf f l o T n = some r → Parses l o T n r := by
  intro f
  induction f with
  | zero => intro l o T n r h; simp [pf] at h
  | succ f ih =>
    intro l o T n r h
    cases l with
    | ch c =>
      rw [pf] at h
      cases hs : pf f c.sub o T n with
      | none => rw [hs] at h; cases h
      | some q =>
        rw [hs] at h
        cases q with
        | err e => cases h; exact .chE (ih _ _ _ _ _ hs)
        | ok p T1 n1 => exact .chO (ih _ _ _ _ _ hs) (ih _ _ _ _ _ h)
    | more c p =>
      rw [pf] at h
      by_cases h0 : sgn c.lo c.hi T = 0
      · rw [if_pos h0] at h; cases h; exact .mEnd h0
      · rw [if_neg h0] at h
        cases hs : pf f c.sub o (T.drop 1) n with
        | none => rw [hs] at h; cases h
        | some q =>
          rw [hs] at h
          cases q with
          | err e => cases h; exact .mErr rfl h0 (ih _ _ _ _ _ hs)
          | ok q T1 n1 =>
            dsimp only at h
            by_cases h4 : n1 = 40
            · rw [if_pos h4] at h; cases h; exact .mMany rfl h0 (ih _ _ _ _ _ hs) h4
            · rw [if_neg h4] at h
              by_cases h5 : n1 < 40
              · rw [if_pos h5] at h; exact .mOk rfl h0 (ih _ _ _ _ _ hs) h5 (ih _ _ _ _ _ h)
              · rw [if_neg h5] at h; cases h
    | den =>
      rw [pf] at h
      by_cases h0 : nxt T = wNot
      · rw [if_pos h0] at h
        by_cases ho : o < 48
        · rw [if_pos ho] at h
          cases hs : pf f .den (o + 1) (T.drop 1) n with
          | none => rw [hs] at h; cases h
          | some q =>
            rw [hs] at h
            cases q with
            | err e => cases h; exact .dErr h0 ho (ih _ _ _ _ _ hs)
            | ok q T1 n1 =>
              dsimp only at h
              by_cases h4 : n1 = 40
              · rw [if_pos h4] at h; cases h; exact .dMany h0 ho (ih _ _ _ _ _ hs) h4
              · rw [if_neg h4] at h
                by_cases h5 : n1 < 40
                · rw [if_pos h5] at h; cases h; exact .dOk h0 ho (ih _ _ _ _ _ hs) h5
                · rw [if_neg h5] at h; cases h
        · rw [if_neg ho] at h; cases h
      · rw [if_neg h0] at h; exact .dC h0 (ih _ _ _ _ _ h)
    | cmp =>
      rw [pf] at h
      cases hs : pf f (.ch .sum) o T n with
      | none => rw [hs] at h; cases h
      | some q =>
        rw [hs] at h
        cases q with
        | err e => cases h; exact .cE (ih _ _ _ _ _ hs)
        | ok p T1 n1 =>
          dsimp only at h
          have hp := ih _ _ _ _ _ hs
          by_cases hi : nxt T1 = wIs
          · rw [if_pos hi] at h
            by_cases hu : nxt (T1.drop 1) = wNull
            · rw [if_pos hu] at h
              by_cases h4 : n1 = 40
              · rw [if_pos h4] at h; cases h; exact .cIsM hp hi hu h4
              · rw [if_neg h4] at h
                by_cases h5 : n1 < 40
                · rw [if_pos h5] at h; cases h; exact .cIs hp hi hu h5
                · rw [if_neg h5] at h; cases h
            · rw [if_neg hu] at h; cases h; exact .cIsF hp hi hu
          · rw [if_neg hi] at h
            by_cases h0 : sgn 10 11 T1 = 0
            · rw [if_pos h0] at h; cases h; exact .c0 hp hi h0
            · rw [if_neg h0] at h
              cases hs2 : pf f (.ch .sum) o (T1.drop 1) n1 with
              | none => rw [hs2] at h; cases h
              | some q2 =>
                rw [hs2] at h
                cases q2 with
                | err e => cases h; exact .cQE hp hi rfl h0 (ih _ _ _ _ _ hs2)
                | ok q T2 n2 =>
                  dsimp only at h
                  by_cases h4 : n2 = 40
                  · rw [if_pos h4] at h; cases h; exact .cQM hp hi rfl h0 (ih _ _ _ _ _ hs2) h4
                  · rw [if_neg h4] at h
                    by_cases h5 : n2 < 40
                    · rw [if_pos h5] at h; cases h; exact .cQ hp hi rfl h0 (ih _ _ _ _ _ hs2) h5
                    · rw [if_neg h5] at h; cases h
    | neg =>
      rw [pf] at h
      cases hv : vAt T with
      | some q =>
        obtain ⟨v, T1⟩ := q
        rw [hv] at h
        dsimp only at h
        by_cases h4 : n = 40
        · rw [if_pos h4] at h; cases h; exact .gVM hv h4
        · rw [if_neg h4] at h
          by_cases h5 : n < 40
          · rw [if_pos h5] at h; cases h; exact .gV hv h5
          · rw [if_neg h5] at h; cases h
      | none =>
        rw [hv] at h
        dsimp only at h
        by_cases h0 : nxt T = wMin
        · rw [if_pos h0] at h
          by_cases ho : o < 48
          · rw [if_pos ho] at h
            cases hs : pf f .neg (o + 1) (T.drop 1) n with
            | none => rw [hs] at h; cases h
            | some q =>
              rw [hs] at h
              cases q with
              | err e => cases h; exact .gErr hv h0 ho (ih _ _ _ _ _ hs)
              | ok q T1 n1 =>
                dsimp only at h
                by_cases h4 : n1 = 40
                · rw [if_pos h4] at h; cases h; exact .gMany hv h0 ho (ih _ _ _ _ _ hs) h4
                · rw [if_neg h4] at h
                  by_cases h5 : n1 < 40
                  · rw [if_pos h5] at h; cases h; exact .gOk hv h0 ho (ih _ _ _ _ _ hs) h5
                  · rw [if_neg h5] at h; cases h
          · rw [if_neg ho] at h; cases h
        · rw [if_neg h0] at h; exact .gP hv h0 (ih _ _ _ _ _ h)
    | pri =>
      rw [pf] at h
      by_cases h0 : nxt T = wOp
      · rw [if_pos h0] at h
        by_cases ho : o < 48
        · rw [if_pos ho] at h
          cases hs : pf f (.ch .or) (o + 1) (T.drop 1) n with
          | none => rw [hs] at h; cases h
          | some q =>
            rw [hs] at h
            cases q with
            | err e => cases h; exact .pErr h0 ho (ih _ _ _ _ _ hs)
            | ok p T1 n1 =>
              dsimp only at h
              by_cases h3 : nxt T1 = wCl
              · rw [if_pos h3] at h; cases h; exact .pOk h0 ho (ih _ _ _ _ _ hs) h3
              · rw [if_neg h3] at h; cases h; exact .pNo h0 ho (ih _ _ _ _ _ hs) h3
        · rw [if_neg ho] at h; cases h
      · rw [if_neg h0] at h
        cases hc : colOf (nxt T) with
        | none => rw [hc] at h; cases h; exact .pF h0 hc
        | some k =>
          rw [hc] at h
          dsimp only at h
          by_cases h4 : n = 40
          · rw [if_pos h4] at h; cases h; exact .pColM h0 hc h4
          · rw [if_neg h4] at h
            by_cases h5 : n < 40
            · rw [if_pos h5] at h; cases h; exact .pCol h0 hc h5
            · rw [if_neg h5] at h; cases h

end Go.Proofs.YtbpfpjmjmkpjoaaGreatDoor
namespace Go.Proofs.YtbpfpjmjmkpjoaaGreatDoor
open Go Go.RowKit

set_option linter.unusedVariables false
set_option linter.unusedSimpArgs false
def ptB : PT → PT → Bool
  | .con k n t, .con k' n' t' => decide (k = k') && (decide (n = n') && decide (t = t'))
  | .col c, .col c' => decide (c = c')
  | .una o p, .una o' p' => decide (o = o') && ptB p p'
  | .bin o l r, .bin o' l' r' => decide (o = o') && (ptB l l' && ptB r r')
  | _, _ => false
theorem ptB_eq : ∀ (p q : PT), ptB p q = true → p = q
  | .con k n t, .con k' n' t', h => by simp only [ptB, Bool.and_eq_true, decide_eq_true_eq] at h; rw [h.1, h.2.1, h.2.2]
  | .col c, .col c', h => by simp only [ptB, decide_eq_true_eq] at h; rw [h]
  | .una o p, .una o' p', h => by simp only [ptB, Bool.and_eq_true, decide_eq_true_eq] at h; rw [h.1, ptB_eq p p' h.2]
  | .bin o l r, .bin o' l' r', h => by simp only [ptB, Bool.and_eq_true, decide_eq_true_eq] at h; rw [h.1, ptB_eq l l' h.2.1, ptB_eq r r' h.2.2]
  | .con _ _ _, .col _, h => by cases h
  | .con _ _ _, .una _ _, h => by cases h
  | .con _ _ _, .bin _ _ _, h => by cases h
  | .col _, .con _ _ _, h => by cases h
  | .col _, .una _ _, h => by cases h
  | .col _, .bin _ _ _, h => by cases h
  | .una _ _, .con _ _ _, h => by cases h
  | .una _ _, .col _, h => by cases h
  | .una _ _, .bin _ _ _, h => by cases h
  | .bin _ _ _, .con _ _ _, h => by cases h
  | .bin _ _ _, .col _, h => by cases h
  | .bin _ _ _, .una _ _, h => by cases h
/-- The signs that bind, and their levels. -/
def bndS (i : Nat) : List UInt8 := [[111, 114], [97, 110, 100], [61], [60], [43], [45], [42], [47]].getD i []
def bndL (i : Nat) : Nat := [0, 1, 2, 2, 3, 3, 4, 4].getD i 0
def bndPl (i j : Nat) : ByteArray := ⟨([105, 100, 32] ++ bndS i ++ [32, 110, 32] ++ bndS j ++ [32, 53]).toArray⟩
def bndLe (i j : Nat) : ByteArray := ⟨([40, 105, 100, 32] ++ bndS i ++ [32, 110, 41, 32] ++ bndS j ++ [32, 53]).toArray⟩
def bndRi (i j : Nat) : ByteArray := ⟨([105, 100, 32] ++ bndS i ++ [32, 40, 110, 32] ++ bndS j ++ [32, 53, 41]).toArray⟩
def bndDu (i j : Nat) : ByteArray := if bndL i < bndL j then bndRi i j else bndLe i j
def bndOf (t : ByteArray) : Option PT :=
  if (lexR t).2 = 0 then (match pf 40 (.ch .or) 0 (lexR t).1 0 with
    | some (.ok p [] _) => if p.dep ≤ 12 then some p else none
    | _ => none) else none
def bndOk (i j : Nat) : Bool := (bndL i == 2 && bndL j == 2) || (match bndOf (bndPl i j), bndOf (bndDu i j) with
  | some p, some q => ptB p q
  | _, _ => false)
theorem bnd_all : ∀ i, i < 8 → ∀ j, j < 8 → bndOk i j = true := by decide +kernel
theorem bnd_read {t : ByteArray} {p : PT} (h : bndOf t = some p) : ∃ r, Parses (.ch .or) 0 (lexR t).1 0 r ∧ peR (lexR t) r = (nodesP p 0, 0) := by
  unfold bndOf at h
  split at h
  · rename_i h0
    split at h
    · rename_i p' n hq
      split at h
      · rename_i hd
        cases h
        refine ⟨_, pf_sound _ _ _ _ _ _ hq, ?_⟩
        unfold peR
        rw [if_pos h0, show finR (.ok p [] n) = .ok p [] n from if_neg (by omega)]
        rfl
      · cases h
    · cases h
  · cases h
theorem bnd_both {i j : Nat} (hi : i < 8) (hj : j < 8) (h : ¬ (bndL i = 2 ∧ bndL j = 2)) : ∃ p, bndOf (bndPl i j) = some p ∧ bndOf (bndDu i j) = some p := by
  have hb := bnd_all i hi j hj
  unfold bndOk at hb
  have h2 : (bndL i == 2 && bndL j == 2) = false := by
    cases e : (bndL i == 2 && bndL j == 2) with
    | false => rfl
    | true => exact absurd (by simpa using e) h
  rw [h2, Bool.false_or] at hb
  split at hb
  · rename_i p q e1 e2
    have e := ptB_eq p q hb
    subst e
    exact ⟨p, e1, e2⟩
  · cases hb

end Go.Proofs.YtbpfpjmjmkpjoaaGreatDoor
namespace Go.Proofs.YtbpfpjmjmkpjoaaGreatDoor
open Go Go.RowKit
attribute [local go_sem ↓] Go.wp_at_zero Go.wp_at_succ

set_option linter.unusedVariables false
set_option linter.unusedSimpArgs false
set_option maxRecDepth 100000 in
set_option maxHeartbeats 8000000 in
theorem c_sameX (a a' : Option Addr) (n c c' : Nat) (L : List EN) (w : World) (hr : RdE w a n L) (hr' : RdE w a' n L) (hn : n ≤ 1048576) :
    Calls Tryz.prog 24 #[.agg #[.slice a n c], .agg #[.slice a' n c']] w fun e w' => e = .returned (.bool true) ∧ Below w.heap.size w w' := by
  obtain ⟨U, hU⟩ : ∃ Q, w.alloc (.cells #[.slice a n c] 24) = Q := ⟨_, rfl⟩
  obtain ⟨V, hV⟩ : ∃ Q, U.alloc (.cells #[.slice a' n c'] 24) = Q := ⟨_, rfl⟩
  have bU : Below w.heap.size w U := by rw [← hU]; exact (Below.refl _ _).alloc (Nat.le_refl _) _
  have bV : Below U.heap.size U V := by rw [← hV]; exact (Below.refl _ _).alloc (Nat.le_refl _) _
  have XA : Hid (Box V w.heap.size 24 #[.slice a n c]) := by
    have XU : Box U w.heap.size 24 #[.slice a n c] := by rw [← hU]; exact Box.new _ _ _
    exact XU.belowS bV
  have XB : Hid (Box V U.heap.size 24 #[.slice a' n c']) := by unfold Hid; rw [← hV]; exact Box.new _ _ _
  have bb : Below w.heap.size w V := bU.trans (bV.mono bU.size)
  have HR : Hid (RdE V a n L) := hr.below bb
  have HR' : Hid (RdE V a' n L) := hr'.below bb
  have BV : Hid (Below w.heap.size w V) := bb
  have xa : V.cell? ⟨w.heap.size, 0, none⟩ = some (.slice a n c) := XA.out.cell 0
  have xb : V.cell? ⟨U.heap.size, 0, none⟩ = some (.slice a' n c') := XB.out.cell 0
  clear hr hr' bU bV bb
  go_enter Tryz.func24, Tryz.ntmps24
  go_wp2
  go_loopw [5] (fun i wr => ∃ k : Nat, k ≤ n ∧ i = .int .i64 k ∧ Below V.heap.size V wr) (fun i _ => n - (intOf i).toNat)
  case atStart => exact ⟨0, by omega, rfl, Below.refl _ _⟩
  case round =>
    obtain ⟨k, hk, rfl, hb⟩ := hrel
    have XA2 : Hid (Box wr w.heap.size 24 #[.slice a n c]) := XA.out.belowS hb
    have XB2 : Hid (Box wr U.heap.size 24 #[.slice a' n c']) := XB.out.belowS hb
    have xa2 : wr.cell? ⟨w.heap.size, 0, none⟩ = some (.slice a n c) := XA2.out.cell 0
    have xb2 : wr.cell? ⟨U.heap.size, 0, none⟩ = some (.slice a' n c') := XB2.out.cell 0
    have hl := HR.out.1
    have B : Hid (Below V.heap.size V wr) := hb
    by_cases hlt : k < n
    · obtain ⟨b, off, rfl, hbl, hc⟩ := HR.out.2 (by omega)
      obtain ⟨b', off', rfl, hbl', hc'⟩ := HR'.out.2 (by omega)
      obtain ⟨⟨vo, va, vb, vc, vk, vn, vt⟩, hv⟩ : ∃ v, v = L.getD k zeroE := ⟨_, rfl⟩
      obtain ⟨d0, d1, d2, d3, d4, d5, d6⟩ := RdE.at hc hlt hv
      obtain ⟨x0, x1, x2, x3, x4, x5, x6⟩ := RdE.at hc' hlt hv
      dsimp only at d0 d1 d2 d3 d4 d5 d6 x0 x1 x2 x3 x4 x5 x6
      have e0 : wr.cell? ⟨b, off + k * 7, none⟩ = some (.int .i64 vo) := by rw [hb.cell (p := ⟨b, off + k * 7, none⟩) hbl, d0]
      have e1 : wr.cell? ⟨b, off + k * 7 + 1, none⟩ = some (.int .i64 va) := by rw [hb.cell (p := ⟨b, off + k * 7 + 1, none⟩) hbl, d1]
      have e2 : wr.cell? ⟨b, off + k * 7 + 2, none⟩ = some (.int .i64 vb) := by rw [hb.cell (p := ⟨b, off + k * 7 + 2, none⟩) hbl, d2]
      have e3 : wr.cell? ⟨b, off + k * 7 + 3, none⟩ = some (.int .i64 vc) := by rw [hb.cell (p := ⟨b, off + k * 7 + 3, none⟩) hbl, d3]
      have e4 : wr.cell? ⟨b, off + k * 7 + 4, none⟩ = some (.int .i64 vk) := by rw [hb.cell (p := ⟨b, off + k * 7 + 4, none⟩) hbl, d4]
      have e5 : wr.cell? ⟨b, off + k * 7 + 5, none⟩ = some (.int .i64 vn) := by rw [hb.cell (p := ⟨b, off + k * 7 + 5, none⟩) hbl, d5]
      have e6 : wr.cell? ⟨b, off + k * 7 + 6, none⟩ = some (.string vt) := by rw [hb.cell (p := ⟨b, off + k * 7 + 6, none⟩) hbl, d6]
      have y0 : wr.cell? ⟨b', off' + k * 7, none⟩ = some (.int .i64 vo) := by rw [hb.cell (p := ⟨b', off' + k * 7, none⟩) hbl', x0]
      have y1 : wr.cell? ⟨b', off' + k * 7 + 1, none⟩ = some (.int .i64 va) := by rw [hb.cell (p := ⟨b', off' + k * 7 + 1, none⟩) hbl', x1]
      have y2 : wr.cell? ⟨b', off' + k * 7 + 2, none⟩ = some (.int .i64 vb) := by rw [hb.cell (p := ⟨b', off' + k * 7 + 2, none⟩) hbl', x2]
      have y3 : wr.cell? ⟨b', off' + k * 7 + 3, none⟩ = some (.int .i64 vc) := by rw [hb.cell (p := ⟨b', off' + k * 7 + 3, none⟩) hbl', x3]
      have y4 : wr.cell? ⟨b', off' + k * 7 + 4, none⟩ = some (.int .i64 vk) := by rw [hb.cell (p := ⟨b', off' + k * 7 + 4, none⟩) hbl', x4]
      have y5 : wr.cell? ⟨b', off' + k * 7 + 5, none⟩ = some (.int .i64 vn) := by rw [hb.cell (p := ⟨b', off' + k * 7 + 5, none⟩) hbl', x5]
      have y6 : wr.cell? ⟨b', off' + k * 7 + 6, none⟩ = some (.string vt) := by rw [hb.cell (p := ⟨b', off' + k * 7 + 6, none⟩) hbl', x6]
      have g1 : (0 : Int) ≤ (k : Int) := by omega
      have g2 : (k : Int) < (n : Int) := by omega
      have q0 : (vo == vo) = true := by simp
      have q1 : (va == va) = true := by simp
      have q2 : (vb == vb) = true := by simp
      have q3 : (vc == vc) = true := by simp
      have q4 : (vk == vk) = true := by simp
      have q5 : (vn == vn) = true := by simp
      have q6 : (vt.toList == vt.toList) = true := by simp
      clear hc hc' hv d0 d1 d2 d3 d4 d5 d6 x0 x1 x2 x3 x4 x5 x6 hb xa xb
      go_wp2_with fail
      go_region_held3 (fun x => x.cell? ⟨w.heap.size, 0, none⟩ = some (.slice (some ⟨b, off, none⟩) n c) ∧ x.cell? ⟨U.heap.size, 0, none⟩ = some (.slice (some ⟨b', off', none⟩) n c') ∧ x.cell? ⟨b, off + k * 7, none⟩ = some (.int .i64 vo) ∧ x.cell? ⟨b, off + k * 7 + 1, none⟩ = some (.int .i64 va) ∧ x.cell? ⟨b, off + k * 7 + 2, none⟩ = some (.int .i64 vb) ∧ x.cell? ⟨b, off + k * 7 + 3, none⟩ = some (.int .i64 vc) ∧ x.cell? ⟨b, off + k * 7 + 4, none⟩ = some (.int .i64 vk) ∧ x.cell? ⟨b, off + k * 7 + 5, none⟩ = some (.int .i64 vn) ∧ x.cell? ⟨b, off + k * 7 + 6, none⟩ = some (.string vt) ∧ x.cell? ⟨b', off' + k * 7, none⟩ = some (.int .i64 vo) ∧ x.cell? ⟨b', off' + k * 7 + 1, none⟩ = some (.int .i64 va) ∧ x.cell? ⟨b', off' + k * 7 + 2, none⟩ = some (.int .i64 vb) ∧ x.cell? ⟨b', off' + k * 7 + 3, none⟩ = some (.int .i64 vc) ∧ x.cell? ⟨b', off' + k * 7 + 4, none⟩ = some (.int .i64 vk) ∧ x.cell? ⟨b', off' + k * 7 + 5, none⟩ = some (.int .i64 vn) ∧ x.cell? ⟨b', off' + k * 7 + 6, none⟩ = some (.string vt)) (first | go_keep) (first | fail)
      go_wp2
      go_roundw
      case rel => exact ⟨k + 1, by omega, by go_num, B.out.drew⟩
      case measure => simp [intOf]; omega
    · have e : k = n := by omega
      subst e
      go_wp2
      go_ret
      exact ⟨rfl, BV.out.trans (B.out.mono BV.out.size)⟩

end Go.Proofs.YtbpfpjmjmkpjoaaGreatDoor
namespace Go.Proofs.YtbpfpjmjmkpjoaaGreatDoor
open Go Go.RowKit
attribute [local go_sem ↓] Go.wp_at_zero Go.wp_at_succ

set_option linter.unusedVariables false
set_option linter.unusedSimpArgs false

set_option maxRecDepth 100000 in
set_option maxHeartbeats 8000000 in
theorem c_at (a : Option Addr) (n c i : Nat) (m : Int) (zs : List Int) (w : World) (hr : RdV w a n (zs.map (Value.int .u8))) (hz : ∀ z ∈ zs, 0 ≤ z ∧ z < 256) (hn : n ≤ 1048576) (hi : i ≤ 8) (hm : m ≤ 1000) :
    Calls Tryz.prog 27 #[.slice a n c, .int .i64 i, .int .i64 m] w fun e w' => (∃ r : Int, e = .returned (.int .i64 r) ∧ 0 ≤ r ∧ (1 ≤ m → r < m)) ∧ Below w.heap.size w w' := by
  by_cases h1 : m ≤ 1
  · go_enter Tryz.func27, Tryz.ntmps27
    go_wp2
    go_ret
    exact ⟨⟨0, rfl, by omega, by omega⟩, Below.refl _ _⟩
  · have hmz : (m == 0) = false := by simp; omega
    have hmz2 : ¬ m = 0 := by omega
    by_cases h0 : n = 0
    · subst h0
      have w1 : IntKind.i64.wrap ((i : Int) * 7) = (i : Int) * 7 := by rw [IntKind.wrap_i64]; omega
      obtain ⟨q, hq⟩ : ∃ q, ((i : Int) * 7).tmod m = q := ⟨_, rfl⟩
      have hqr : 0 ≤ q ∧ q < m := by
        rw [← hq, Int.tmod_eq_emod_of_nonneg (by omega)]
        exact ⟨Int.emod_nonneg _ (by omega), Int.emod_lt_of_pos _ (by omega)⟩
      have w2 : IntKind.i64.wrap q = q := by rw [IntKind.wrap_i64]; omega
      clear hr hz
      go_enter Tryz.func27, Tryz.ntmps27
      go_wp2
      go_ret
      exact ⟨⟨q, rfl, hqr.1, fun _ => hqr.2⟩, Below.refl _ _⟩
    · have hl : zs.length = n := by have := hr.1; simpa using this
      obtain ⟨b, off, rfl, hbl, hc⟩ := hr.2 (by omega)
      obtain ⟨p, hp⟩ : ∃ p : Nat, i % n = p := ⟨_, rfl⟩
      obtain ⟨p', hp'⟩ : ∃ p : Nat, (i + 1) % n = p := ⟨_, rfl⟩
      have hpn : p < n := by rw [← hp]; exact Nat.mod_lt _ (by omega)
      have hpn' : p' < n := by rw [← hp']; exact Nat.mod_lt _ (by omega)
      have t1 : ((i : Int)).tmod (n : Int) = (p : Int) := by rw [Int.tmod_eq_emod_of_nonneg (by omega), ← hp]; exact (Int.natCast_emod i n).symm
      have t2 : ((i : Int) + 1).tmod (n : Int) = (p' : Int) := by rw [Int.tmod_eq_emod_of_nonneg (by omega), ← hp', show (i : Int) + 1 = ((i + 1 : Nat) : Int) by omega]; exact (Int.natCast_emod (i + 1) n).symm
      obtain ⟨d, hd⟩ : ∃ d : Nat, i / n = d := ⟨_, rfl⟩
      have t3 : ((i : Int)).tdiv (n : Int) = (d : Int) := by rw [Int.tdiv_eq_ediv_of_nonneg (by omega), ← hd]; exact (Int.natCast_ediv i n).symm
      have hd8 : d ≤ 8 := by rw [← hd]; exact Nat.le_trans (Nat.div_le_self _ _) hi
      obtain ⟨x, hx⟩ : ∃ x, zs.getD p 0 = x := ⟨_, rfl⟩
      obtain ⟨y, hy⟩ : ∃ y, zs.getD p' 0 = y := ⟨_, rfl⟩
      have e0 : w.cell? ⟨b, off + p, none⟩ = some (.int .u8 x) := by rw [hc p hpn, ← hx]; exact map_get _ _ _ _ (by omega)
      have e1 : w.cell? ⟨b, off + p', none⟩ = some (.int .u8 y) := by rw [hc p' hpn', ← hy]; exact map_get _ _ _ _ (by omega)
      have hx2 : 0 ≤ x ∧ x < 256 := by rw [← hx]; exact hz _ (by rw [List.getD_eq_getElem?_getD, List.getElem?_eq_getElem (by omega)]; exact List.getElem_mem (by omega))
      have hy2 : 0 ≤ y ∧ y < 256 := by rw [← hy]; exact hz _ (by rw [List.getD_eq_getElem?_getD, List.getElem?_eq_getElem (by omega)]; exact List.getElem_mem (by omega))
      obtain ⟨q, hq⟩ : ∃ q, (x * 31 + y + (d : Int)).tmod m = q := ⟨_, rfl⟩
      have hqr : 0 ≤ q ∧ q < m := by
        rw [← hq, Int.tmod_eq_emod_of_nonneg (by omega)]
        exact ⟨Int.emod_nonneg _ (by omega), Int.emod_lt_of_pos _ (by omega)⟩
      have w1 : IntKind.i64.wrap (p : Int) = p := by rw [IntKind.wrap_i64]; omega
      have w2 : IntKind.i64.wrap (p' : Int) = p' := by rw [IntKind.wrap_i64]; omega
      have w3 : IntKind.i64.wrap (d : Int) = d := by rw [IntKind.wrap_i64]; omega
      have w4 : IntKind.i64.wrap ((i : Int) + 1) = (i : Int) + 1 := by rw [IntKind.wrap_i64]; omega
      have w5 : IntKind.i64.wrap x = x := by rw [IntKind.wrap_i64]; omega
      have w6 : IntKind.i64.wrap y = y := by rw [IntKind.wrap_i64]; omega
      have w7 : IntKind.i64.wrap (x * 31) = x * 31 := by rw [IntKind.wrap_i64]; omega
      have w8 : IntKind.i64.wrap (x * 31 + y) = x * 31 + y := by rw [IntKind.wrap_i64]; omega
      have w9 : IntKind.i64.wrap (x * 31 + y + (d : Int)) = x * 31 + y + (d : Int) := by rw [IntKind.wrap_i64]; omega
      have w10 : IntKind.i64.wrap q = q := by rw [IntKind.wrap_i64]; omega
      have n0 : ((n : Int) == 0) = false := by simp; omega
      have n1 : ¬ (n : Int) = 0 := by omega
      have g1 : (0 : Int) ≤ (p : Int) := by omega
      have g2 : (p : Int) < (n : Int) := by omega
      have g3 : (0 : Int) ≤ (p' : Int) := by omega
      have g4 : (p' : Int) < (n : Int) := by omega
      clear hc hr hz hx hy hp hp' hd
      go_enter Tryz.func27, Tryz.ntmps27
      go_wp2_with fail
      go_region_held3 (fun x' => x'.cell? ⟨b, off + p, none⟩ = some (.int .u8 x) ∧ x'.cell? ⟨b, off + p', none⟩ = some (.int .u8 y)) (first | go_keep) (first | fail)
      go_wp2
      go_ret
      exact ⟨⟨q, rfl, hqr.1, fun _ => hqr.2⟩, (Below.refl _ _).drew⟩
theorem bnd_gs : ∀ i, i < 8 → (#[.string ⟨#[111, 114]⟩, .string ⟨#[97, 110, 100]⟩, .string ⟨#[61]⟩, .string ⟨#[60]⟩, .string ⟨#[43]⟩, .string ⟨#[45]⟩, .string ⟨#[42]⟩, .string ⟨#[47]⟩] : Array Value)[i]? = some (.string ⟨(bndS i).toArray⟩) := by
  intro i hi
  rcases (by omega : i = 0 ∨ i = 1 ∨ i = 2 ∨ i = 3 ∨ i = 4 ∨ i = 5 ∨ i = 6 ∨ i = 7) with rfl | rfl | rfl | rfl | rfl | rfl | rfl | rfl <;> rfl
theorem bnd_sz : ∀ i, i < 8 → (⟨(bndS i).toArray⟩ : ByteArray).size ≤ 1000000 := by decide +kernel
theorem bnd_gl : ∀ i, i < 8 → (#[.int .i64 0, .int .i64 1, .int .i64 2, .int .i64 2, .int .i64 3, .int .i64 3, .int .i64 4, .int .i64 4] : Array Value)[i]? = some (.int .i64 (bndL i : Int)) := by
  intro i hi
  rcases (by omega : i = 0 ∨ i = 1 ∨ i = 2 ∨ i = 3 ∨ i = 4 ∨ i = 5 ∨ i = 6 ∨ i = 7) with rfl | rfl | rfl | rfl | rfl | rfl | rfl | rfl <;> rfl
theorem bnd_pl : ∀ i, i < 8 → ∀ j, j < 8 → (⟨#[105, 100, 32]⟩ ++ ⟨(bndS i).toArray⟩ ++ ⟨#[32, 110, 32]⟩ ++ ⟨(bndS j).toArray⟩ ++ ⟨#[32, 53]⟩ : ByteArray) = bndPl i j := fun i _ j _ => by apply ByteArray.ext; simp [bndPl]
theorem bnd_le : ∀ i, i < 8 → ∀ j, j < 8 → (⟨#[40, 105, 100, 32]⟩ ++ ⟨(bndS i).toArray⟩ ++ ⟨#[32, 110, 41, 32]⟩ ++ ⟨(bndS j).toArray⟩ ++ ⟨#[32, 53]⟩ : ByteArray) = bndLe i j := fun i _ j _ => by apply ByteArray.ext; simp [bndLe]
theorem bnd_ri : ∀ i, i < 8 → ∀ j, j < 8 → (⟨#[105, 100, 32]⟩ ++ ⟨(bndS i).toArray⟩ ++ ⟨#[32, 40, 110, 32]⟩ ++ ⟨(bndS j).toArray⟩ ++ ⟨#[32, 53, 41]⟩ : ByteArray) = bndRi i j := fun i _ j _ => by apply ByteArray.ext; simp [bndRi]
theorem bnd_tsz : ∀ i, i < 8 → ∀ j, j < 8 → (bndPl i j).size ≤ 100 ∧ (bndDu i j).size ≤ 100 := by decide +kernel
theorem bnd_call (w : World) (hT : Tabs w) (hE : TabE w) {i j : Nat} (hi : i < 8) (hj : j < 8) (h : ¬ (bndL i = 2 ∧ bndL j = 2)) : ∃ (L : List EN) (m : Nat), m ≤ 40 ∧
    (∀ W, Below w.heap.size w W → Calls Tryz.prog 10 #[.string (bndPl i j)] W fun e w' => (∃ a c, e = .returned (.tuple #[.agg #[.slice a m c], .int .i64 0]) ∧ w'.ownsRow W.heap.size 86 7 (.slice a m c) m (cellsE L)) ∧ Below W.heap.size W w') ∧
    (∀ W, Below w.heap.size w W → Calls Tryz.prog 10 #[.string (bndDu i j)] W fun e w' => (∃ a c, e = .returned (.tuple #[.agg #[.slice a m c], .int .i64 0]) ∧ w'.ownsRow W.heap.size 86 7 (.slice a m c) m (cellsE L)) ∧ Below W.heap.size W w') ∧
    (∀ W, Calls Tryz.prog 9 #[.string (bndPl i j)] W fun e w' => (∃ a c, e = .returned (.tuple #[.agg #[.slice a m c], .int .i64 0]) ∧ w'.ownsRow W.heap.size 86 7 (.slice a m c) m (cellsE L)) ∧ Below W.heap.size W w') := by
  obtain ⟨p, e1, e2⟩ := bnd_both hi hj h
  obtain ⟨r1, h1, q1⟩ := bnd_read e1
  obtain ⟨r2, h2, q2⟩ := bnd_read e2
  have hs := bnd_tsz i hi j hj
  have hm : (100 : Nat) ≤ maxLen := by unfold maxLen; omega
  refine ⟨nodesP p 0, (nodesP p 0).length, ?_, fun W hW => ?_, fun W hW => ?_, fun W => ?_⟩
  · have := pe_len _ r1 h1; rw [q1] at this; exact this
  · have := c_implPE (bndPl i j) W (by omega) (hT.below hW) (hE.below hW) r1 h1; rw [q1] at this; exact this
  · have := c_implPE (bndDu i j) W (by omega) (hT.below hW) (hE.below hW) r2 h2; rw [q2] at this; exact this
  · have := s_specPE (bndPl i j) W (by omega) r1 h1; rw [q1] at this; exact this
set_option maxRecDepth 100000 in
set_option maxHeartbeats 8000000 in
theorem law_FnBinds (a : Option Addr) (n c : Nat) (zs : List Int) (a' : Option Addr) (n' c' : Nat) (zs' : List Int) (w : World) (hr : RdV w a n (zs.map (Value.int .u8))) (hz : ∀ z ∈ zs, 0 ≤ z ∧ z < 256) (hr' : RdV w a' n' (zs'.map (Value.int .u8))) (hz' : ∀ z ∈ zs', 0 ≤ z ∧ z < 256) (hn : n ≤ maxLen) (hn' : n' ≤ maxLen) (hT : Tabs w) (hE : TabE w) :
    Calls Tryz.prog 6 #[.slice a n c, .slice a' n' c'] w fun e w' => e = .returned (.bool true) ∧ Below w.heap.size w w' := by
  by_cases hb1 : (1048576 : Int) < (n : Int)
  · go_enter Tryz.func6, Tryz.ntmps6
    go_wp2
    go_ret
    exact ⟨rfl, Below.refl _ _⟩
  by_cases hb2 : (1048576 : Int) < (n' : Int)
  · go_enter Tryz.func6, Tryz.ntmps6
    go_wp2
    go_ret
    exact ⟨rfl, Below.refl _ _⟩
  obtain ⟨U, hU⟩ : ∃ Q, w.alloc (.cells #[.string ⟨#[111, 114]⟩, .string ⟨#[97, 110, 100]⟩, .string ⟨#[61]⟩, .string ⟨#[60]⟩, .string ⟨#[43]⟩, .string ⟨#[45]⟩, .string ⟨#[42]⟩, .string ⟨#[47]⟩] 9) = Q := ⟨_, rfl⟩
  obtain ⟨V, hV⟩ : ∃ Q, U.alloc (.cells #[.int .i64 0, .int .i64 1, .int .i64 2, .int .i64 2, .int .i64 3, .int .i64 3, .int .i64 4, .int .i64 4] 3) = Q := ⟨_, rfl⟩
  have bU : Below w.heap.size w U := by rw [← hU]; exact (Below.refl _ _).alloc (Nat.le_refl _) _
  have sU : U.heap.size = w.heap.size + 1 := by rw [← hU]; simp
  have bV : Below U.heap.size U V := by rw [← hV]; exact (Below.refl _ _).alloc (Nat.le_refl _) _
  have XS : Hid (Box V w.heap.size 9 #[.string ⟨#[111, 114]⟩, .string ⟨#[97, 110, 100]⟩, .string ⟨#[61]⟩, .string ⟨#[60]⟩, .string ⟨#[43]⟩, .string ⟨#[45]⟩, .string ⟨#[42]⟩, .string ⟨#[47]⟩]) := by
    have XU : Box U w.heap.size 9 #[.string ⟨#[111, 114]⟩, .string ⟨#[97, 110, 100]⟩, .string ⟨#[61]⟩, .string ⟨#[60]⟩, .string ⟨#[43]⟩, .string ⟨#[45]⟩, .string ⟨#[42]⟩, .string ⟨#[47]⟩] := by rw [← hU]; exact Box.new _ _ _
    exact XU.belowS bV
  have XL : Hid (Box V U.heap.size 3 #[.int .i64 0, .int .i64 1, .int .i64 2, .int .i64 2, .int .i64 3, .int .i64 3, .int .i64 4, .int .i64 4]) := by unfold Hid; rw [← hV]; exact Box.new _ _ _
  have BV : Hid (Below w.heap.size w V) := bU.trans (bV.mono bU.size)
  have CA : Hid (∀ W, Below w.heap.size w W → Calls Tryz.prog 27 #[.slice a n c, .int .i64 0, .int .i64 8] W fun e w' => (∃ i : Nat, i < 8 ∧ e = .returned (.int .i64 i)) ∧ Below W.heap.size W w') := fun W hW => (c_at a n c 0 8 zs W (hr.below hW) hz (by omega) (by omega) (by omega)).mono fun e w' h => by
    obtain ⟨⟨r, rfl, h0, h8⟩, hb⟩ := h
    exact ⟨⟨r.toNat, by omega, by rw [Int.toNat_of_nonneg h0]⟩, hb⟩
  have CB : Hid (∀ W, Below w.heap.size w W → Calls Tryz.prog 27 #[.slice a' n' c', .int .i64 0, .int .i64 8] W fun e w' => (∃ i : Nat, i < 8 ∧ e = .returned (.int .i64 i)) ∧ Below W.heap.size W w') := fun W hW => (c_at a' n' c' 0 8 zs' W (hr'.below hW) hz' (by omega) (by omega) (by omega)).mono fun e w' h => by
    obtain ⟨⟨r, rfl, h0, h8⟩, hb⟩ := h
    exact ⟨⟨r.toNat, by omega, by rw [Int.toNat_of_nonneg h0]⟩, hb⟩
  have HT : Hid (Tabs w ∧ TabE w) := ⟨hT, hE⟩
  have C1 := CA.out V BV.out
  clear bU bV hr hz hr' hz' hn hn' hT hE CA sU
  go_enter Tryz.func6, Tryz.ntmps6
  go_wp2_with fail
  refine C1.mono ?_
  rintro e w1 ⟨⟨i, hi, rfl⟩, hb⟩
  have C2 := CB.out w1 (BV.out.trans (hb.mono BV.out.size))
  go_wp2_with fail
  refine C2.mono ?_
  rintro e w2 ⟨⟨j, hj, rfl⟩, hb'⟩
  have bb : Below V.heap.size V w2 := hb.trans (hb'.mono hb.size)
  have B2 : Hid (Below w.heap.size w w2) := BV.out.trans (bb.mono BV.out.size)
  have XS2 : Hid (Box w2 w.heap.size 9 _) := XS.out.belowS bb
  have XL2 : Hid (Box w2 U.heap.size 3 _) := XL.out.belowS bb
  clear hb hb' bb C1 C2 CB XS XL BV hU hV
  obtain ⟨si, hsi⟩ : ∃ s : ByteArray, (⟨(bndS i).toArray⟩ : ByteArray) = s := ⟨_, rfl⟩
  obtain ⟨sj, hsj⟩ : ∃ s : ByteArray, (⟨(bndS j).toArray⟩ : ByteArray) = s := ⟨_, rfl⟩
  obtain ⟨li, hli⟩ : ∃ l : Int, (bndL i : Int) = l := ⟨_, rfl⟩
  obtain ⟨lj, hlj⟩ : ∃ l : Int, (bndL j : Int) = l := ⟨_, rfl⟩
  have xi : w2.cell? ⟨w.heap.size, i, none⟩ = some (.string si) := by rw [XS2.out.cell, ← hsi]; exact bnd_gs i hi
  have xj : w2.cell? ⟨w.heap.size, j, none⟩ = some (.string sj) := by rw [XS2.out.cell, ← hsj]; exact bnd_gs j hj
  have yi : w2.cell? ⟨U.heap.size, i, none⟩ = some (.int .i64 li) := by rw [XL2.out.cell, ← hli]; exact bnd_gl i hi
  have yj : w2.cell? ⟨U.heap.size, j, none⟩ = some (.int .i64 lj) := by rw [XL2.out.cell, ← hlj]; exact bnd_gl j hj
  have HSI : Hid ((⟨(bndS i).toArray⟩ : ByteArray) = si) := hsi
  have HSJ : Hid ((⟨(bndS j).toArray⟩ : ByteArray) = sj) := hsj
  have HLI : Hid ((bndL i : Int) = li) := hli
  have HLJ : Hid ((bndL j : Int) = lj) := hlj
  have HIJ : Hid (i < 8 ∧ j < 8) := ⟨hi, hj⟩
  have z1 : si.size ≤ 1000000 := by rw [← hsi]; exact bnd_sz i hi
  have z2 : sj.size ≤ 1000000 := by rw [← hsj]; exact bnd_sz j hj
  clear hsi hsj hli hlj hi hj
  have g1 : (0 : Int) ≤ (i : Int) := by have := HIJ.out.1; omega
  have g2 : (i : Int) < 8 := by have := HIJ.out.1; omega
  have g3 : (0 : Int) ≤ (j : Int) := by omega
  have g4 : (j : Int) < 8 := by have := HIJ.out.2; omega
  by_cases h2 : li = 2
  · have q1 : (li == 2) = true := by simp [h2]
    by_cases h3 : lj = 2
    · have q2 : (lj == 2) = true := by simp [h3]
      clear h2 h3
      go_wp2
      go_ret
      exact ⟨rfl, B2.out⟩
    · have q2 : (lj == 2) = false := by simpa using h3
      obtain ⟨L, m, hm, cp0, cd0, cx0⟩ := bnd_call w HT.out.1 HT.out.2 HIJ.out.1 HIJ.out.2 (fun hh => by have e1 := HLI.out; have e2 := HLJ.out; omega)
      have HM : Hid (m ≤ 40) := hm
      have CP : Hid (∀ W, Below w.heap.size w W → Calls Tryz.prog 10 #[.string (bndPl i j)] W fun e w' => (∃ a c, e = .returned (.tuple #[.agg #[.slice a m c], .int .i64 0]) ∧ w'.ownsRow W.heap.size 86 7 (.slice a m c) m (cellsE L)) ∧ Below W.heap.size W w') := cp0
      have CD : Hid (∀ W, Below w.heap.size w W → Calls Tryz.prog 10 #[.string (bndDu i j)] W fun e w' => (∃ a c, e = .returned (.tuple #[.agg #[.slice a m c], .int .i64 0]) ∧ w'.ownsRow W.heap.size 86 7 (.slice a m c) m (cellsE L)) ∧ Below W.heap.size W w') := cd0
      have CX : Hid (∀ W, Calls Tryz.prog 9 #[.string (bndPl i j)] W fun e w' => (∃ a c, e = .returned (.tuple #[.agg #[.slice a m c], .int .i64 0]) ∧ w'.ownsRow W.heap.size 86 7 (.slice a m c) m (cellsE L)) ∧ Below W.heap.size W w') := cx0
      have HPL : Hid (⟨#[105, 100, 32]⟩ ++ si ++ ⟨#[32, 110, 32]⟩ ++ sj ++ ⟨#[32, 53]⟩ = bndPl i j) := by unfold Hid; rw [← HSI.out, ← HSJ.out]; exact bnd_pl i HIJ.out.1 j HIJ.out.2
      clear hm cp0 cd0 cx0
      clear h2 h3
      have q02 := fun r' : Out w2 => q_cell xi r'
      have q12 := fun r' : Out w2 => q_cell xj r'
      go_wp2_with fail
      haveI nonE2 := Out.some w2
      refine q_begin (by kernel_rfl) (by kernel_rfl) ?_
      repeat (go_big_quiet_step (first | fail))
      refine wpQuiet_nil ?_
      rintro w3 ⟨⟨y', hb3⟩, hy⟩
      have hy' : w3 = y' := hy
      clear hy
      subst hy'
      have B3 : Hid (Below w.heap.size w w3) := B2.out.trans (hb3.mono B2.out.size)
      have XS3 : Hid (Box w3 w.heap.size 9 _) := XS2.out.belowS hb3
      have XL3 : Hid (Box w3 U.heap.size 3 _) := XL2.out.belowS hb3
      clear xi xj yi yj q02 q12 hb3 XS2 XL2 B2
      have xi : w3.cell? ⟨w.heap.size, i, none⟩ = some (.string si) := by rw [XS3.out.cell, ← HSI.out]; exact bnd_gs i HIJ.out.1
      have xj : w3.cell? ⟨w.heap.size, j, none⟩ = some (.string sj) := by rw [XS3.out.cell, ← HSJ.out]; exact bnd_gs j HIJ.out.2
      have yi : w3.cell? ⟨U.heap.size, i, none⟩ = some (.int .i64 li) := by rw [XL3.out.cell, ← HLI.out]; exact bnd_gl i HIJ.out.1
      have yj : w3.cell? ⟨U.heap.size, j, none⟩ = some (.int .i64 lj) := by rw [XL3.out.cell, ← HLJ.out]; exact bnd_gl j HIJ.out.2
      have q03 := fun r' : Out w3 => q_cell xi r'
      have q13 := fun r' : Out w3 => q_cell xj r'
      go_wp2_with fail
      haveI nonE3 := Out.some w3
      refine q_begin (by kernel_rfl) (by kernel_rfl) ?_
      repeat (go_big_quiet_step (first | fail))
      refine wpQuiet_nil ?_
      rintro w4 ⟨⟨y', hb3⟩, hy⟩
      have hy' : w4 = y' := hy
      clear hy
      subst hy'
      have B4 : Hid (Below w.heap.size w w4) := B3.out.trans (hb3.mono B3.out.size)
      have XS4 : Hid (Box w4 w.heap.size 9 _) := XS3.out.belowS hb3
      have XL4 : Hid (Box w4 U.heap.size 3 _) := XL3.out.belowS hb3
      clear xi xj yi yj q03 q13 hb3 XS3 XL3 B3
      have xi : w4.cell? ⟨w.heap.size, i, none⟩ = some (.string si) := by rw [XS4.out.cell, ← HSI.out]; exact bnd_gs i HIJ.out.1
      have xj : w4.cell? ⟨w.heap.size, j, none⟩ = some (.string sj) := by rw [XS4.out.cell, ← HSJ.out]; exact bnd_gs j HIJ.out.2
      have yi : w4.cell? ⟨U.heap.size, i, none⟩ = some (.int .i64 li) := by rw [XL4.out.cell, ← HLI.out]; exact bnd_gl i HIJ.out.1
      have yj : w4.cell? ⟨U.heap.size, j, none⟩ = some (.int .i64 lj) := by rw [XL4.out.cell, ← HLJ.out]; exact bnd_gl j HIJ.out.2
      have q04 := fun r' : Out w4 => q_cell xi r'
      have q14 := fun r' : Out w4 => q_cell xj r'
      go_wp2_with fail
      haveI nonE4 := Out.some w4
      refine q_begin (by kernel_rfl) (by kernel_rfl) ?_
      repeat (go_big_quiet_step (first | fail))
      refine wpQuiet_nil ?_
      rintro w5 ⟨⟨y', hb3⟩, hy⟩
      have hy' : w5 = y' := hy
      clear hy
      subst hy'
      have B5 : Hid (Below w.heap.size w w5) := B4.out.trans (hb3.mono B4.out.size)
      have XS5 : Hid (Box w5 w.heap.size 9 _) := XS4.out.belowS hb3
      have XL5 : Hid (Box w5 U.heap.size 3 _) := XL4.out.belowS hb3
      clear xi xj yi yj q04 q14 hb3 XS4 XL4 B4
      have xi : w5.cell? ⟨w.heap.size, i, none⟩ = some (.string si) := by rw [XS5.out.cell, ← HSI.out]; exact bnd_gs i HIJ.out.1
      have xj : w5.cell? ⟨w.heap.size, j, none⟩ = some (.string sj) := by rw [XS5.out.cell, ← HSJ.out]; exact bnd_gs j HIJ.out.2
      have yi : w5.cell? ⟨U.heap.size, i, none⟩ = some (.int .i64 li) := by rw [XL5.out.cell, ← HLI.out]; exact bnd_gl i HIJ.out.1
      have yj : w5.cell? ⟨U.heap.size, j, none⟩ = some (.int .i64 lj) := by rw [XL5.out.cell, ← HLJ.out]; exact bnd_gl j HIJ.out.2
      go_wp2_with fail

      by_cases h5 : li < lj
      · have HDU : Hid (⟨#[105, 100, 32]⟩ ++ si ++ ⟨#[32, 40, 110, 32]⟩ ++ sj ++ ⟨#[32, 53, 41]⟩ = bndDu i j) := by
          unfold Hid bndDu; rw [if_pos (by have e1 := HLI.out; have e2 := HLJ.out; omega), ← HSI.out, ← HSJ.out]; exact bnd_ri i HIJ.out.1 j HIJ.out.2
        have d1 : decide (li < lj) = true := decide_eq_true h5
        have d2 : decide (lj ≤ li) = false := decide_eq_false (by omega)
        have q05 := fun r' : Out w5 => q_cell yi r'
        have q15 := fun r' : Out w5 => q_cell yj r'
        haveI nonE5 := Out.some w5
        refine q_begin (by kernel_rfl) (by kernel_rfl) ?_
        repeat (go_big_quiet_step (first | fail))
        refine wpQuiet_nil ?_
        rintro w6 ⟨⟨y', hb3⟩, hy⟩
        have hy' : w6 = y' := hy
        clear hy
        subst hy'
        have B6 : Hid (Below w.heap.size w w6) := B5.out.trans (hb3.mono B5.out.size)
        clear q05 q15 hb3 XS5 XL5 B5 xi xj yi yj
        go_wp2_with fail
        have C6 : Calls Tryz.prog 10 #[.string (⟨#[105, 100, 32]⟩ ++ si ++ ⟨#[32, 110, 32]⟩ ++ sj ++ ⟨#[32, 53]⟩)] w6 (fun e w' => (∃ a c, e = .returned (.tuple #[.agg #[.slice a m c], .int .i64 0]) ∧ w'.ownsRow w6.heap.size 86 7 (.slice a m c) m (cellsE L)) ∧ Below w6.heap.size w6 w') := by rw [HPL.out]; exact CP.out w6 B6.out
        refine C6.mono ?_
        rintro e w7 ⟨⟨ap, cp, rfl, op⟩, hb⟩
        obtain ⟨V7, hV7⟩ : ∃ Q, w7.alloc (.cells #[.slice ap m cp] 24) = Q := ⟨_, rfl⟩
        have b7 : Below w7.heap.size w7 V7 := by rw [← hV7]; exact (Below.refl _ _).alloc (Nat.le_refl _) _
        have XP7 : Hid (Box V7 w7.heap.size 24 #[.slice ap m cp]) := by unfold Hid; rw [← hV7]; exact Box.new _ _ _
        have bb := hb.trans (b7.mono hb.size)
        have B7 : Hid (Below w.heap.size w V7) := B6.out.trans (bb.mono B6.out.size)
        have RP7 : Hid (RdE V7 ap m L) := (RdE.own op).below b7
        clear C6 op hb bb b7 B6
        have C7 : Calls Tryz.prog 10 #[.string (⟨#[105, 100, 32]⟩ ++ si ++ ⟨#[32, 40, 110, 32]⟩ ++ sj ++ ⟨#[32, 53, 41]⟩)] V7 (fun e w' => (∃ a c, e = .returned (.tuple #[.agg #[.slice a m c], .int .i64 0]) ∧ w'.ownsRow V7.heap.size 86 7 (.slice a m c) m (cellsE L)) ∧ Below V7.heap.size V7 w') := by rw [HDU.out]; exact CD.out V7 B7.out
        go_wp2_with fail
        refine C7.mono ?_
        rintro e w8 ⟨⟨ad, cd, rfl, od⟩, hb⟩
        obtain ⟨V8, hV8⟩ : ∃ Q, w8.alloc (.cells #[.slice ad m cd] 24) = Q := ⟨_, rfl⟩
        have b8 : Below w8.heap.size w8 V8 := by rw [← hV8]; exact (Below.refl _ _).alloc (Nat.le_refl _) _
        have XD8 : Hid (Box V8 w8.heap.size 24 #[.slice ad m cd]) := by unfold Hid; rw [← hV8]; exact Box.new _ _ _
        have bb := hb.trans (b8.mono hb.size)
        have B8 : Hid (Below w.heap.size w V8) := B7.out.trans (bb.mono B7.out.size)
        have XP8 : Hid (Box V8 w7.heap.size 24 #[.slice ap m cp]) := XP7.out.belowS bb
        have RP8 : Hid (RdE V8 ap m L) := RP7.out.below bb
        have RD8 : Hid (RdE V8 ad m L) := (RdE.own od).below b8
        clear C7 od hb bb b8 B7 XP7 RP7 hV7
        have C8 : Calls Tryz.prog 9 #[.string (⟨#[105, 100, 32]⟩ ++ si ++ ⟨#[32, 110, 32]⟩ ++ sj ++ ⟨#[32, 53]⟩)] V8 (fun e w' => (∃ a c, e = .returned (.tuple #[.agg #[.slice a m c], .int .i64 0]) ∧ w'.ownsRow V8.heap.size 86 7 (.slice a m c) m (cellsE L)) ∧ Below V8.heap.size V8 w') := by rw [HPL.out]; exact CX.out V8
        go_wp2_with fail
        refine C8.mono ?_
        rintro e w9 ⟨⟨ax, cx, rfl, ox⟩, hb⟩
        obtain ⟨V9, hV9⟩ : ∃ Q, w9.alloc (.cells #[.slice ax m cx] 24) = Q := ⟨_, rfl⟩
        have b9 : Below w9.heap.size w9 V9 := by rw [← hV9]; exact (Below.refl _ _).alloc (Nat.le_refl _) _
        have XX9 : Hid (Box V9 w9.heap.size 24 #[.slice ax m cx]) := by unfold Hid; rw [← hV9]; exact Box.new _ _ _
        have bb := hb.trans (b9.mono hb.size)
        have B9 : Hid (Below w.heap.size w V9) := B8.out.trans (bb.mono B8.out.size)
        have XP9 : Hid (Box V9 w7.heap.size 24 #[.slice ap m cp]) := XP8.out.belowS bb
        have XD9 : Hid (Box V9 w8.heap.size 24 #[.slice ad m cd]) := XD8.out.belowS bb
        have RP9 : Hid (RdE V9 ap m L) := RP8.out.below bb
        have RX9 : Hid (RdE V9 ax m L) := (RdE.own ox).below b9
        have C9 := c_sameX ap ad m cp cd L V9 RP9.out (RD8.out.below bb) (by have := HM.out; omega)
        clear C8 ox hb bb b9 B8 XP8 XD8 RP8 RD8 hV8
        have xp := XP9.out.cell 0
        have xd := XD9.out.cell 0
        go_wp2_with fail
        refine C9.mono ?_
        rintro e w10 ⟨rfl, hb⟩
        have B10 : Hid (Below w.heap.size w w10) := B9.out.trans (hb.mono B9.out.size)
        have C10 := c_sameX ap ax m cp cx L w10 (RP9.out.below hb) (RX9.out.below hb) (by have := HM.out; omega)
        have XP10 : Hid (Box w10 w7.heap.size 24 #[.slice ap m cp]) := XP9.out.belowS hb
        have XX10 : Hid (Box w10 w9.heap.size 24 #[.slice ax m cx]) := XX9.out.belowS hb
        clear xp xd C9 B9 XP9 XD9 XX9 RP9 RX9 hb hV9
        have xp := XP10.out.cell 0
        have xx := XX10.out.cell 0
        go_wp2_with fail
        refine C10.mono ?_
        rintro e w11 ⟨rfl, hb⟩
        have B11 : Hid (Below w.heap.size w w11) := B10.out.trans (hb.mono B10.out.size)
        clear hb C10
        go_wp2
        go_ret
        exact ⟨rfl, B11.out⟩
      · have HDU : Hid (⟨#[40, 105, 100, 32]⟩ ++ si ++ ⟨#[32, 110, 41, 32]⟩ ++ sj ++ ⟨#[32, 53]⟩ = bndDu i j) := by
          unfold Hid bndDu; rw [if_neg (by have e1 := HLI.out; have e2 := HLJ.out; omega), ← HSI.out, ← HSJ.out]; exact bnd_le i HIJ.out.1 j HIJ.out.2
        have d1 : decide (li < lj) = false := decide_eq_false h5
        have d2 : decide (lj ≤ li) = true := decide_eq_true (by omega)
        have q05 := fun r' : Out w5 => q_cell yi r'
        have q15 := fun r' : Out w5 => q_cell yj r'
        haveI nonE5 := Out.some w5
        refine q_begin (by kernel_rfl) (by kernel_rfl) ?_
        repeat (go_big_quiet_step (first | fail))
        refine wpQuiet_nil ?_
        rintro w6 ⟨⟨y', hb3⟩, hy⟩
        have hy' : w6 = y' := hy
        clear hy
        subst hy'
        have B6 : Hid (Below w.heap.size w w6) := B5.out.trans (hb3.mono B5.out.size)
        clear q05 q15 hb3 XS5 XL5 B5 xi xj yi yj
        go_wp2_with fail
        have C6 : Calls Tryz.prog 10 #[.string (⟨#[105, 100, 32]⟩ ++ si ++ ⟨#[32, 110, 32]⟩ ++ sj ++ ⟨#[32, 53]⟩)] w6 (fun e w' => (∃ a c, e = .returned (.tuple #[.agg #[.slice a m c], .int .i64 0]) ∧ w'.ownsRow w6.heap.size 86 7 (.slice a m c) m (cellsE L)) ∧ Below w6.heap.size w6 w') := by rw [HPL.out]; exact CP.out w6 B6.out
        refine C6.mono ?_
        rintro e w7 ⟨⟨ap, cp, rfl, op⟩, hb⟩
        obtain ⟨V7, hV7⟩ : ∃ Q, w7.alloc (.cells #[.slice ap m cp] 24) = Q := ⟨_, rfl⟩
        have b7 : Below w7.heap.size w7 V7 := by rw [← hV7]; exact (Below.refl _ _).alloc (Nat.le_refl _) _
        have XP7 : Hid (Box V7 w7.heap.size 24 #[.slice ap m cp]) := by unfold Hid; rw [← hV7]; exact Box.new _ _ _
        have bb := hb.trans (b7.mono hb.size)
        have B7 : Hid (Below w.heap.size w V7) := B6.out.trans (bb.mono B6.out.size)
        have RP7 : Hid (RdE V7 ap m L) := (RdE.own op).below b7
        clear C6 op hb bb b7 B6
        have C7 : Calls Tryz.prog 10 #[.string (⟨#[40, 105, 100, 32]⟩ ++ si ++ ⟨#[32, 110, 41, 32]⟩ ++ sj ++ ⟨#[32, 53]⟩)] V7 (fun e w' => (∃ a c, e = .returned (.tuple #[.agg #[.slice a m c], .int .i64 0]) ∧ w'.ownsRow V7.heap.size 86 7 (.slice a m c) m (cellsE L)) ∧ Below V7.heap.size V7 w') := by rw [HDU.out]; exact CD.out V7 B7.out
        go_wp2_with fail
        refine C7.mono ?_
        rintro e w8 ⟨⟨ad, cd, rfl, od⟩, hb⟩
        obtain ⟨V8, hV8⟩ : ∃ Q, w8.alloc (.cells #[.slice ad m cd] 24) = Q := ⟨_, rfl⟩
        have b8 : Below w8.heap.size w8 V8 := by rw [← hV8]; exact (Below.refl _ _).alloc (Nat.le_refl _) _
        have XD8 : Hid (Box V8 w8.heap.size 24 #[.slice ad m cd]) := by unfold Hid; rw [← hV8]; exact Box.new _ _ _
        have bb := hb.trans (b8.mono hb.size)
        have B8 : Hid (Below w.heap.size w V8) := B7.out.trans (bb.mono B7.out.size)
        have XP8 : Hid (Box V8 w7.heap.size 24 #[.slice ap m cp]) := XP7.out.belowS bb
        have RP8 : Hid (RdE V8 ap m L) := RP7.out.below bb
        have RD8 : Hid (RdE V8 ad m L) := (RdE.own od).below b8
        clear C7 od hb bb b8 B7 XP7 RP7 hV7
        have C8 : Calls Tryz.prog 9 #[.string (⟨#[105, 100, 32]⟩ ++ si ++ ⟨#[32, 110, 32]⟩ ++ sj ++ ⟨#[32, 53]⟩)] V8 (fun e w' => (∃ a c, e = .returned (.tuple #[.agg #[.slice a m c], .int .i64 0]) ∧ w'.ownsRow V8.heap.size 86 7 (.slice a m c) m (cellsE L)) ∧ Below V8.heap.size V8 w') := by rw [HPL.out]; exact CX.out V8
        go_wp2_with fail
        refine C8.mono ?_
        rintro e w9 ⟨⟨ax, cx, rfl, ox⟩, hb⟩
        obtain ⟨V9, hV9⟩ : ∃ Q, w9.alloc (.cells #[.slice ax m cx] 24) = Q := ⟨_, rfl⟩
        have b9 : Below w9.heap.size w9 V9 := by rw [← hV9]; exact (Below.refl _ _).alloc (Nat.le_refl _) _
        have XX9 : Hid (Box V9 w9.heap.size 24 #[.slice ax m cx]) := by unfold Hid; rw [← hV9]; exact Box.new _ _ _
        have bb := hb.trans (b9.mono hb.size)
        have B9 : Hid (Below w.heap.size w V9) := B8.out.trans (bb.mono B8.out.size)
        have XP9 : Hid (Box V9 w7.heap.size 24 #[.slice ap m cp]) := XP8.out.belowS bb
        have XD9 : Hid (Box V9 w8.heap.size 24 #[.slice ad m cd]) := XD8.out.belowS bb
        have RP9 : Hid (RdE V9 ap m L) := RP8.out.below bb
        have RX9 : Hid (RdE V9 ax m L) := (RdE.own ox).below b9
        have C9 := c_sameX ap ad m cp cd L V9 RP9.out (RD8.out.below bb) (by have := HM.out; omega)
        clear C8 ox hb bb b9 B8 XP8 XD8 RP8 RD8 hV8
        have xp := XP9.out.cell 0
        have xd := XD9.out.cell 0
        go_wp2_with fail
        refine C9.mono ?_
        rintro e w10 ⟨rfl, hb⟩
        have B10 : Hid (Below w.heap.size w w10) := B9.out.trans (hb.mono B9.out.size)
        have C10 := c_sameX ap ax m cp cx L w10 (RP9.out.below hb) (RX9.out.below hb) (by have := HM.out; omega)
        have XP10 : Hid (Box w10 w7.heap.size 24 #[.slice ap m cp]) := XP9.out.belowS hb
        have XX10 : Hid (Box w10 w9.heap.size 24 #[.slice ax m cx]) := XX9.out.belowS hb
        clear xp xd C9 B9 XP9 XD9 XX9 RP9 RX9 hb hV9
        have xp := XP10.out.cell 0
        have xx := XX10.out.cell 0
        go_wp2_with fail
        refine C10.mono ?_
        rintro e w11 ⟨rfl, hb⟩
        have B11 : Hid (Below w.heap.size w w11) := B10.out.trans (hb.mono B10.out.size)
        clear hb C10
        go_wp2
        go_ret
        exact ⟨rfl, B11.out⟩
  · have q1 : (li == 2) = false := by simpa using h2
    obtain ⟨L, m, hm, cp0, cd0, cx0⟩ := bnd_call w HT.out.1 HT.out.2 HIJ.out.1 HIJ.out.2 (fun hh => by have e1 := HLI.out; have e2 := HLJ.out; omega)
    have HM : Hid (m ≤ 40) := hm
    have CP : Hid (∀ W, Below w.heap.size w W → Calls Tryz.prog 10 #[.string (bndPl i j)] W fun e w' => (∃ a c, e = .returned (.tuple #[.agg #[.slice a m c], .int .i64 0]) ∧ w'.ownsRow W.heap.size 86 7 (.slice a m c) m (cellsE L)) ∧ Below W.heap.size W w') := cp0
    have CD : Hid (∀ W, Below w.heap.size w W → Calls Tryz.prog 10 #[.string (bndDu i j)] W fun e w' => (∃ a c, e = .returned (.tuple #[.agg #[.slice a m c], .int .i64 0]) ∧ w'.ownsRow W.heap.size 86 7 (.slice a m c) m (cellsE L)) ∧ Below W.heap.size W w') := cd0
    have CX : Hid (∀ W, Calls Tryz.prog 9 #[.string (bndPl i j)] W fun e w' => (∃ a c, e = .returned (.tuple #[.agg #[.slice a m c], .int .i64 0]) ∧ w'.ownsRow W.heap.size 86 7 (.slice a m c) m (cellsE L)) ∧ Below W.heap.size W w') := cx0
    have HPL : Hid (⟨#[105, 100, 32]⟩ ++ si ++ ⟨#[32, 110, 32]⟩ ++ sj ++ ⟨#[32, 53]⟩ = bndPl i j) := by unfold Hid; rw [← HSI.out, ← HSJ.out]; exact bnd_pl i HIJ.out.1 j HIJ.out.2
    clear hm cp0 cd0 cx0
    clear h2
    have q02 := fun r' : Out w2 => q_cell xi r'
    have q12 := fun r' : Out w2 => q_cell xj r'
    go_wp2_with fail
    haveI nonE2 := Out.some w2
    refine q_begin (by kernel_rfl) (by kernel_rfl) ?_
    repeat (go_big_quiet_step (first | fail))
    refine wpQuiet_nil ?_
    rintro w3 ⟨⟨y', hb3⟩, hy⟩
    have hy' : w3 = y' := hy
    clear hy
    subst hy'
    have B3 : Hid (Below w.heap.size w w3) := B2.out.trans (hb3.mono B2.out.size)
    have XS3 : Hid (Box w3 w.heap.size 9 _) := XS2.out.belowS hb3
    have XL3 : Hid (Box w3 U.heap.size 3 _) := XL2.out.belowS hb3
    clear xi xj yi yj q02 q12 hb3 XS2 XL2 B2
    have xi : w3.cell? ⟨w.heap.size, i, none⟩ = some (.string si) := by rw [XS3.out.cell, ← HSI.out]; exact bnd_gs i HIJ.out.1
    have xj : w3.cell? ⟨w.heap.size, j, none⟩ = some (.string sj) := by rw [XS3.out.cell, ← HSJ.out]; exact bnd_gs j HIJ.out.2
    have yi : w3.cell? ⟨U.heap.size, i, none⟩ = some (.int .i64 li) := by rw [XL3.out.cell, ← HLI.out]; exact bnd_gl i HIJ.out.1
    have yj : w3.cell? ⟨U.heap.size, j, none⟩ = some (.int .i64 lj) := by rw [XL3.out.cell, ← HLJ.out]; exact bnd_gl j HIJ.out.2
    have q03 := fun r' : Out w3 => q_cell xi r'
    have q13 := fun r' : Out w3 => q_cell xj r'
    go_wp2_with fail
    haveI nonE3 := Out.some w3
    refine q_begin (by kernel_rfl) (by kernel_rfl) ?_
    repeat (go_big_quiet_step (first | fail))
    refine wpQuiet_nil ?_
    rintro w4 ⟨⟨y', hb3⟩, hy⟩
    have hy' : w4 = y' := hy
    clear hy
    subst hy'
    have B4 : Hid (Below w.heap.size w w4) := B3.out.trans (hb3.mono B3.out.size)
    have XS4 : Hid (Box w4 w.heap.size 9 _) := XS3.out.belowS hb3
    have XL4 : Hid (Box w4 U.heap.size 3 _) := XL3.out.belowS hb3
    clear xi xj yi yj q03 q13 hb3 XS3 XL3 B3
    have xi : w4.cell? ⟨w.heap.size, i, none⟩ = some (.string si) := by rw [XS4.out.cell, ← HSI.out]; exact bnd_gs i HIJ.out.1
    have xj : w4.cell? ⟨w.heap.size, j, none⟩ = some (.string sj) := by rw [XS4.out.cell, ← HSJ.out]; exact bnd_gs j HIJ.out.2
    have yi : w4.cell? ⟨U.heap.size, i, none⟩ = some (.int .i64 li) := by rw [XL4.out.cell, ← HLI.out]; exact bnd_gl i HIJ.out.1
    have yj : w4.cell? ⟨U.heap.size, j, none⟩ = some (.int .i64 lj) := by rw [XL4.out.cell, ← HLJ.out]; exact bnd_gl j HIJ.out.2
    have q04 := fun r' : Out w4 => q_cell xi r'
    have q14 := fun r' : Out w4 => q_cell xj r'
    go_wp2_with fail
    haveI nonE4 := Out.some w4
    refine q_begin (by kernel_rfl) (by kernel_rfl) ?_
    repeat (go_big_quiet_step (first | fail))
    refine wpQuiet_nil ?_
    rintro w5 ⟨⟨y', hb3⟩, hy⟩
    have hy' : w5 = y' := hy
    clear hy
    subst hy'
    have B5 : Hid (Below w.heap.size w w5) := B4.out.trans (hb3.mono B4.out.size)
    have XS5 : Hid (Box w5 w.heap.size 9 _) := XS4.out.belowS hb3
    have XL5 : Hid (Box w5 U.heap.size 3 _) := XL4.out.belowS hb3
    clear xi xj yi yj q04 q14 hb3 XS4 XL4 B4
    have xi : w5.cell? ⟨w.heap.size, i, none⟩ = some (.string si) := by rw [XS5.out.cell, ← HSI.out]; exact bnd_gs i HIJ.out.1
    have xj : w5.cell? ⟨w.heap.size, j, none⟩ = some (.string sj) := by rw [XS5.out.cell, ← HSJ.out]; exact bnd_gs j HIJ.out.2
    have yi : w5.cell? ⟨U.heap.size, i, none⟩ = some (.int .i64 li) := by rw [XL5.out.cell, ← HLI.out]; exact bnd_gl i HIJ.out.1
    have yj : w5.cell? ⟨U.heap.size, j, none⟩ = some (.int .i64 lj) := by rw [XL5.out.cell, ← HLJ.out]; exact bnd_gl j HIJ.out.2
    go_wp2_with fail

    by_cases h5 : li < lj
    · have HDU : Hid (⟨#[105, 100, 32]⟩ ++ si ++ ⟨#[32, 40, 110, 32]⟩ ++ sj ++ ⟨#[32, 53, 41]⟩ = bndDu i j) := by
        unfold Hid bndDu; rw [if_pos (by have e1 := HLI.out; have e2 := HLJ.out; omega), ← HSI.out, ← HSJ.out]; exact bnd_ri i HIJ.out.1 j HIJ.out.2
      have d1 : decide (li < lj) = true := decide_eq_true h5
      have d2 : decide (lj ≤ li) = false := decide_eq_false (by omega)
      have q05 := fun r' : Out w5 => q_cell yi r'
      have q15 := fun r' : Out w5 => q_cell yj r'
      haveI nonE5 := Out.some w5
      refine q_begin (by kernel_rfl) (by kernel_rfl) ?_
      repeat (go_big_quiet_step (first | fail))
      refine wpQuiet_nil ?_
      rintro w6 ⟨⟨y', hb3⟩, hy⟩
      have hy' : w6 = y' := hy
      clear hy
      subst hy'
      have B6 : Hid (Below w.heap.size w w6) := B5.out.trans (hb3.mono B5.out.size)
      clear q05 q15 hb3 XS5 XL5 B5 xi xj yi yj
      go_wp2_with fail
      have C6 : Calls Tryz.prog 10 #[.string (⟨#[105, 100, 32]⟩ ++ si ++ ⟨#[32, 110, 32]⟩ ++ sj ++ ⟨#[32, 53]⟩)] w6 (fun e w' => (∃ a c, e = .returned (.tuple #[.agg #[.slice a m c], .int .i64 0]) ∧ w'.ownsRow w6.heap.size 86 7 (.slice a m c) m (cellsE L)) ∧ Below w6.heap.size w6 w') := by rw [HPL.out]; exact CP.out w6 B6.out
      refine C6.mono ?_
      rintro e w7 ⟨⟨ap, cp, rfl, op⟩, hb⟩
      obtain ⟨V7, hV7⟩ : ∃ Q, w7.alloc (.cells #[.slice ap m cp] 24) = Q := ⟨_, rfl⟩
      have b7 : Below w7.heap.size w7 V7 := by rw [← hV7]; exact (Below.refl _ _).alloc (Nat.le_refl _) _
      have XP7 : Hid (Box V7 w7.heap.size 24 #[.slice ap m cp]) := by unfold Hid; rw [← hV7]; exact Box.new _ _ _
      have bb := hb.trans (b7.mono hb.size)
      have B7 : Hid (Below w.heap.size w V7) := B6.out.trans (bb.mono B6.out.size)
      have RP7 : Hid (RdE V7 ap m L) := (RdE.own op).below b7
      clear C6 op hb bb b7 B6
      have C7 : Calls Tryz.prog 10 #[.string (⟨#[105, 100, 32]⟩ ++ si ++ ⟨#[32, 40, 110, 32]⟩ ++ sj ++ ⟨#[32, 53, 41]⟩)] V7 (fun e w' => (∃ a c, e = .returned (.tuple #[.agg #[.slice a m c], .int .i64 0]) ∧ w'.ownsRow V7.heap.size 86 7 (.slice a m c) m (cellsE L)) ∧ Below V7.heap.size V7 w') := by rw [HDU.out]; exact CD.out V7 B7.out
      go_wp2_with fail
      refine C7.mono ?_
      rintro e w8 ⟨⟨ad, cd, rfl, od⟩, hb⟩
      obtain ⟨V8, hV8⟩ : ∃ Q, w8.alloc (.cells #[.slice ad m cd] 24) = Q := ⟨_, rfl⟩
      have b8 : Below w8.heap.size w8 V8 := by rw [← hV8]; exact (Below.refl _ _).alloc (Nat.le_refl _) _
      have XD8 : Hid (Box V8 w8.heap.size 24 #[.slice ad m cd]) := by unfold Hid; rw [← hV8]; exact Box.new _ _ _
      have bb := hb.trans (b8.mono hb.size)
      have B8 : Hid (Below w.heap.size w V8) := B7.out.trans (bb.mono B7.out.size)
      have XP8 : Hid (Box V8 w7.heap.size 24 #[.slice ap m cp]) := XP7.out.belowS bb
      have RP8 : Hid (RdE V8 ap m L) := RP7.out.below bb
      have RD8 : Hid (RdE V8 ad m L) := (RdE.own od).below b8
      clear C7 od hb bb b8 B7 XP7 RP7 hV7
      have C8 : Calls Tryz.prog 9 #[.string (⟨#[105, 100, 32]⟩ ++ si ++ ⟨#[32, 110, 32]⟩ ++ sj ++ ⟨#[32, 53]⟩)] V8 (fun e w' => (∃ a c, e = .returned (.tuple #[.agg #[.slice a m c], .int .i64 0]) ∧ w'.ownsRow V8.heap.size 86 7 (.slice a m c) m (cellsE L)) ∧ Below V8.heap.size V8 w') := by rw [HPL.out]; exact CX.out V8
      go_wp2_with fail
      refine C8.mono ?_
      rintro e w9 ⟨⟨ax, cx, rfl, ox⟩, hb⟩
      obtain ⟨V9, hV9⟩ : ∃ Q, w9.alloc (.cells #[.slice ax m cx] 24) = Q := ⟨_, rfl⟩
      have b9 : Below w9.heap.size w9 V9 := by rw [← hV9]; exact (Below.refl _ _).alloc (Nat.le_refl _) _
      have XX9 : Hid (Box V9 w9.heap.size 24 #[.slice ax m cx]) := by unfold Hid; rw [← hV9]; exact Box.new _ _ _
      have bb := hb.trans (b9.mono hb.size)
      have B9 : Hid (Below w.heap.size w V9) := B8.out.trans (bb.mono B8.out.size)
      have XP9 : Hid (Box V9 w7.heap.size 24 #[.slice ap m cp]) := XP8.out.belowS bb
      have XD9 : Hid (Box V9 w8.heap.size 24 #[.slice ad m cd]) := XD8.out.belowS bb
      have RP9 : Hid (RdE V9 ap m L) := RP8.out.below bb
      have RX9 : Hid (RdE V9 ax m L) := (RdE.own ox).below b9
      have C9 := c_sameX ap ad m cp cd L V9 RP9.out (RD8.out.below bb) (by have := HM.out; omega)
      clear C8 ox hb bb b9 B8 XP8 XD8 RP8 RD8 hV8
      have xp := XP9.out.cell 0
      have xd := XD9.out.cell 0
      go_wp2_with fail
      refine C9.mono ?_
      rintro e w10 ⟨rfl, hb⟩
      have B10 : Hid (Below w.heap.size w w10) := B9.out.trans (hb.mono B9.out.size)
      have C10 := c_sameX ap ax m cp cx L w10 (RP9.out.below hb) (RX9.out.below hb) (by have := HM.out; omega)
      have XP10 : Hid (Box w10 w7.heap.size 24 #[.slice ap m cp]) := XP9.out.belowS hb
      have XX10 : Hid (Box w10 w9.heap.size 24 #[.slice ax m cx]) := XX9.out.belowS hb
      clear xp xd C9 B9 XP9 XD9 XX9 RP9 RX9 hb hV9
      have xp := XP10.out.cell 0
      have xx := XX10.out.cell 0
      go_wp2_with fail
      refine C10.mono ?_
      rintro e w11 ⟨rfl, hb⟩
      have B11 : Hid (Below w.heap.size w w11) := B10.out.trans (hb.mono B10.out.size)
      clear hb C10
      go_wp2
      go_ret
      exact ⟨rfl, B11.out⟩
    · have HDU : Hid (⟨#[40, 105, 100, 32]⟩ ++ si ++ ⟨#[32, 110, 41, 32]⟩ ++ sj ++ ⟨#[32, 53]⟩ = bndDu i j) := by
        unfold Hid bndDu; rw [if_neg (by have e1 := HLI.out; have e2 := HLJ.out; omega), ← HSI.out, ← HSJ.out]; exact bnd_le i HIJ.out.1 j HIJ.out.2
      have d1 : decide (li < lj) = false := decide_eq_false h5
      have d2 : decide (lj ≤ li) = true := decide_eq_true (by omega)
      have q05 := fun r' : Out w5 => q_cell yi r'
      have q15 := fun r' : Out w5 => q_cell yj r'
      haveI nonE5 := Out.some w5
      refine q_begin (by kernel_rfl) (by kernel_rfl) ?_
      repeat (go_big_quiet_step (first | fail))
      refine wpQuiet_nil ?_
      rintro w6 ⟨⟨y', hb3⟩, hy⟩
      have hy' : w6 = y' := hy
      clear hy
      subst hy'
      have B6 : Hid (Below w.heap.size w w6) := B5.out.trans (hb3.mono B5.out.size)
      clear q05 q15 hb3 XS5 XL5 B5 xi xj yi yj
      go_wp2_with fail
      have C6 : Calls Tryz.prog 10 #[.string (⟨#[105, 100, 32]⟩ ++ si ++ ⟨#[32, 110, 32]⟩ ++ sj ++ ⟨#[32, 53]⟩)] w6 (fun e w' => (∃ a c, e = .returned (.tuple #[.agg #[.slice a m c], .int .i64 0]) ∧ w'.ownsRow w6.heap.size 86 7 (.slice a m c) m (cellsE L)) ∧ Below w6.heap.size w6 w') := by rw [HPL.out]; exact CP.out w6 B6.out
      refine C6.mono ?_
      rintro e w7 ⟨⟨ap, cp, rfl, op⟩, hb⟩
      obtain ⟨V7, hV7⟩ : ∃ Q, w7.alloc (.cells #[.slice ap m cp] 24) = Q := ⟨_, rfl⟩
      have b7 : Below w7.heap.size w7 V7 := by rw [← hV7]; exact (Below.refl _ _).alloc (Nat.le_refl _) _
      have XP7 : Hid (Box V7 w7.heap.size 24 #[.slice ap m cp]) := by unfold Hid; rw [← hV7]; exact Box.new _ _ _
      have bb := hb.trans (b7.mono hb.size)
      have B7 : Hid (Below w.heap.size w V7) := B6.out.trans (bb.mono B6.out.size)
      have RP7 : Hid (RdE V7 ap m L) := (RdE.own op).below b7
      clear C6 op hb bb b7 B6
      have C7 : Calls Tryz.prog 10 #[.string (⟨#[40, 105, 100, 32]⟩ ++ si ++ ⟨#[32, 110, 41, 32]⟩ ++ sj ++ ⟨#[32, 53]⟩)] V7 (fun e w' => (∃ a c, e = .returned (.tuple #[.agg #[.slice a m c], .int .i64 0]) ∧ w'.ownsRow V7.heap.size 86 7 (.slice a m c) m (cellsE L)) ∧ Below V7.heap.size V7 w') := by rw [HDU.out]; exact CD.out V7 B7.out
      go_wp2_with fail
      refine C7.mono ?_
      rintro e w8 ⟨⟨ad, cd, rfl, od⟩, hb⟩
      obtain ⟨V8, hV8⟩ : ∃ Q, w8.alloc (.cells #[.slice ad m cd] 24) = Q := ⟨_, rfl⟩
      have b8 : Below w8.heap.size w8 V8 := by rw [← hV8]; exact (Below.refl _ _).alloc (Nat.le_refl _) _
      have XD8 : Hid (Box V8 w8.heap.size 24 #[.slice ad m cd]) := by unfold Hid; rw [← hV8]; exact Box.new _ _ _
      have bb := hb.trans (b8.mono hb.size)
      have B8 : Hid (Below w.heap.size w V8) := B7.out.trans (bb.mono B7.out.size)
      have XP8 : Hid (Box V8 w7.heap.size 24 #[.slice ap m cp]) := XP7.out.belowS bb
      have RP8 : Hid (RdE V8 ap m L) := RP7.out.below bb
      have RD8 : Hid (RdE V8 ad m L) := (RdE.own od).below b8
      clear C7 od hb bb b8 B7 XP7 RP7 hV7
      have C8 : Calls Tryz.prog 9 #[.string (⟨#[105, 100, 32]⟩ ++ si ++ ⟨#[32, 110, 32]⟩ ++ sj ++ ⟨#[32, 53]⟩)] V8 (fun e w' => (∃ a c, e = .returned (.tuple #[.agg #[.slice a m c], .int .i64 0]) ∧ w'.ownsRow V8.heap.size 86 7 (.slice a m c) m (cellsE L)) ∧ Below V8.heap.size V8 w') := by rw [HPL.out]; exact CX.out V8
      go_wp2_with fail
      refine C8.mono ?_
      rintro e w9 ⟨⟨ax, cx, rfl, ox⟩, hb⟩
      obtain ⟨V9, hV9⟩ : ∃ Q, w9.alloc (.cells #[.slice ax m cx] 24) = Q := ⟨_, rfl⟩
      have b9 : Below w9.heap.size w9 V9 := by rw [← hV9]; exact (Below.refl _ _).alloc (Nat.le_refl _) _
      have XX9 : Hid (Box V9 w9.heap.size 24 #[.slice ax m cx]) := by unfold Hid; rw [← hV9]; exact Box.new _ _ _
      have bb := hb.trans (b9.mono hb.size)
      have B9 : Hid (Below w.heap.size w V9) := B8.out.trans (bb.mono B8.out.size)
      have XP9 : Hid (Box V9 w7.heap.size 24 #[.slice ap m cp]) := XP8.out.belowS bb
      have XD9 : Hid (Box V9 w8.heap.size 24 #[.slice ad m cd]) := XD8.out.belowS bb
      have RP9 : Hid (RdE V9 ap m L) := RP8.out.below bb
      have RX9 : Hid (RdE V9 ax m L) := (RdE.own ox).below b9
      have C9 := c_sameX ap ad m cp cd L V9 RP9.out (RD8.out.below bb) (by have := HM.out; omega)
      clear C8 ox hb bb b9 B8 XP8 XD8 RP8 RD8 hV8
      have xp := XP9.out.cell 0
      have xd := XD9.out.cell 0
      go_wp2_with fail
      refine C9.mono ?_
      rintro e w10 ⟨rfl, hb⟩
      have B10 : Hid (Below w.heap.size w w10) := B9.out.trans (hb.mono B9.out.size)
      have C10 := c_sameX ap ax m cp cx L w10 (RP9.out.below hb) (RX9.out.below hb) (by have := HM.out; omega)
      have XP10 : Hid (Box w10 w7.heap.size 24 #[.slice ap m cp]) := XP9.out.belowS hb
      have XX10 : Hid (Box w10 w9.heap.size 24 #[.slice ax m cx]) := XX9.out.belowS hb
      clear xp xd C9 B9 XP9 XD9 XX9 RP9 RX9 hb hV9
      have xp := XP10.out.cell 0
      have xx := XX10.out.cell 0
      go_wp2_with fail
      refine C10.mono ?_
      rintro e w11 ⟨rfl, hb⟩
      have B11 : Hid (Below w.heap.size w w11) := B10.out.trans (hb.mono B10.out.size)
      clear hb C10
      go_wp2
      go_ret
      exact ⟨rfl, B11.out⟩
end Go.Proofs.YtbpfpjmjmkpjoaaGreatDoor
