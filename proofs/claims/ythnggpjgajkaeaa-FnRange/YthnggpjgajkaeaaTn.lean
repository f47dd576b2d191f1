/-
  A tree's nodes in their list: what they read as, their sizes.
-/
import Derived.Test.YthnggpjgajkaeaaBx
namespace Go.Proofs.Ythnggpjgajkaeaa
open Go Go.RowKit
attribute [local go_sem ↓] Go.wp_at_zero Go.wp_at_succ

structure TNode where
  lf : Bool
  ka : Option Addr
  kn : Nat
  kc : Nat
  ks : List ByteArray
  ia : Option Addr
  im : Nat
  ic : Nat
  js : List Int
def zeroN : TNode := ⟨false, none, 0, 0, [], none, 0, 0, []⟩
def cN (v : TNode) : List Value := [.bool v.lf, .slice v.ka v.kn v.kc, .slice v.ia v.im v.ic]
def InN (w : World) (v : TNode) : Prop := RdV w v.ka v.kn (v.ks.map Value.string) ∧ RdV w v.ia v.im (v.js.map (Value.int .i64))
theorem InN.below {w w' : World} {v : TNode} (h : InN w v) (hb : Below w.heap.size w w') : InN w' v := ⟨h.1.below hb, h.2.below hb⟩
/-- The slice at a reads as the nodes vs, with the lists within them. -/
def RdN (w : World) (a : Option Addr) (n : Nat) (vs : List TNode) : Prop :=
  vs.length = n ∧ (0 < n → ∃ b off, a = some ⟨b, off, none⟩ ∧ b < w.heap.size ∧ ∀ k, k < n → w.cell? ⟨b, off + k * 3, none⟩ = some (.bool (vs.getD k zeroN).lf) ∧ w.cell? ⟨b, off + k * 3 + 1, none⟩ = some (.slice (vs.getD k zeroN).ka (vs.getD k zeroN).kn (vs.getD k zeroN).kc) ∧ w.cell? ⟨b, off + k * 3 + 2, none⟩ = some (.slice (vs.getD k zeroN).ia (vs.getD k zeroN).im (vs.getD k zeroN).ic)) ∧ ∀ i, i < n → InN w (vs.getD i zeroN)
theorem RdN.below {w w' : World} {a : Option Addr} {n : Nat} {vs : List TNode} (h : RdN w a n vs) (hb : Below w.heap.size w w') : RdN w' a n vs := by
  obtain ⟨h1, h3, h4⟩ := h
  refine ⟨h1, fun hn => ?_, fun i hi => (h4 i hi).below hb⟩
  obtain ⟨b, off, e, hlt, hc⟩ := h3 hn
  refine ⟨b, off, e, Nat.lt_of_lt_of_le hlt hb.size, fun k hk => ?_⟩
  obtain ⟨c0, c1, c2⟩ := hc k hk
  exact ⟨(hb.cell (p := ⟨b, off + k * 3, none⟩) hlt).trans c0, (hb.cell (p := ⟨b, off + k * 3 + 1, none⟩) hlt).trans c1, (hb.cell (p := ⟨b, off + k * 3 + 2, none⟩) hlt).trans c2⟩
def FitN (v : TNode) : Prop := v.kn ≤ 1048576 ∧ v.im ≤ 1048576 ∧ ∀ s ∈ v.ks, (s.size : Int) ≤ 1048576
theorem sizeS_le {left : Int} {n : Nat} {ss : List ByteArray} (h0 : 0 ≤ left) : sizeS left n ss ≤ left := by
  unfold sizeS
  split
  · omega
  · rcases Int.lt_or_le (szL (left - n) ss) 0 with h | h
    · omega
    · have := (szL_ok ss (left - n) (by omega) h).1; omega
theorem sizeS_fit {left : Int} {n : Nat} {ss : List ByteArray} (h1 : left ≤ 1048576) (h : 0 ≤ sizeS left n ss) : n ≤ 1048576 ∧ ∀ s ∈ ss, (s.size : Int) ≤ 1048576 := by
  unfold sizeS at h
  split at h
  · omega
  · have q := (szL_ok ss (left - n) (by omega) h).2
    exact ⟨by omega, fun s hs => by have := q s hs; omega⟩
set_option maxRecDepth 100000 in
set_option maxHeartbeats 2000000 in
theorem c_szI (a : Option Addr) (n cap : Nat) (left : Int) (w : World) (hm : n ≤ maxLen) (h0 : 0 ≤ left) (h1 : left ≤ 1048576) :
    Calls Try.prog 97 #[.slice a n cap, .int .i64 left] w fun e w' => e = .returned (.int .i64 (if left - n < 0 then -1 else left - n)) ∧ w' = w := by
  unfold maxLen at hm
  by_cases hn : left - n < 0
  · rw [if_pos hn]
    go_enter Try.func97, Try.ntmps97
    go_wp2
    go_ret
    exact ⟨rfl, rfl⟩
  · rw [if_neg hn]
    go_enter Try.func97, Try.ntmps97
    go_wp2
    go_ret
    exact ⟨rfl, rfl⟩
set_option maxRecDepth 100000 in
set_option maxHeartbeats 2000000 in
theorem c_szN1 (lf : Bool) (ka : Option Addr) (kn kc : Nat) (ks : List ByteArray) (ia : Option Addr) (im ic : Nat) (left : Int) (w : World) (hr : RdV w ka kn (ks.map Value.string)) (m1 : kn ≤ maxLen) (m2 : ∀ s ∈ ks, s.size ≤ maxLen) (m3 : im ≤ maxLen) (h0 : 0 ≤ left) (h1 : left ≤ 1048576) :
    Calls Try.prog 82 #[.agg #[.bool lf, .slice ka kn kc, .slice ia im ic], .int .i64 left] w fun e w' => (∃ z : Int, e = .returned (.int .i64 z) ∧ z ≤ left ∧ (0 ≤ z → kn ≤ 1048576 ∧ im ≤ 1048576 ∧ ∀ s ∈ ks, (s.size : Int) ≤ 1048576)) ∧ Below w.heap.size w w' := by
  obtain ⟨V, hV⟩ : ∃ Q, w.alloc (.cells #[.bool lf, .slice ka kn kc, .slice ia im ic] 104) = Q := ⟨_, rfl⟩
  have bV : Below w.heap.size w V := by rw [← hV]; exact (Below.refl _ _).alloc (Nat.le_refl _) _
  have XV : Hid (Box V w.heap.size 104 #[.bool lf, .slice ka kn kc, .slice ia im ic]) := by unfold Hid; rw [← hV]; exact Box.new _ _ _
  have BV : Hid (Below w.heap.size w V) := bV
  have x1 : V.cell? ⟨w.heap.size, 1, none⟩ = some (.slice ka kn kc) := XV.out.cell 1
  have x2 : V.cell? ⟨w.heap.size, 2, none⟩ = some (.slice ia im ic) := XV.out.cell 2
  have C := c_szS ka kn kc ks left V (hr.below bV) m1 m2 h0 h1
  have HM : Hid (im ≤ maxLen) := m3
  clear bV hr m1 m2 m3 XV
  go_enter Try.func82, Try.ntmps82
  go_wp2_with fail
  refine C.mono ?_
  rintro e w' ⟨rfl, hq⟩; have hq' := hq.symm; subst hq'; clear hq
  have q1 : sizeS left kn ks ≤ left := sizeS_le h0
  have Q2 : Hid (0 ≤ sizeS left kn ks → kn ≤ 1048576 ∧ ∀ s ∈ ks, (s.size : Int) ≤ 1048576) := sizeS_fit h1
  obtain ⟨z, hz⟩ : ∃ z, sizeS left kn ks = z := ⟨_, rfl⟩
  rw [hz] at q1 Q2 ⊢
  clear C hz
  by_cases hneg : z < 0
  · go_wp2
    go_ret
    exact ⟨⟨_, rfl, by omega, fun h => absurd h (by omega)⟩, BV.out⟩
  · go_wp2_with fail
    refine (c_szI ia im ic z _ HM.out (by omega) (by omega)).mono ?_
    rintro e w' ⟨rfl, hq⟩; have hq' := hq.symm; subst hq'; clear hq
    by_cases h2 : z - im < 0
    · rw [if_pos h2]
      go_wp2
      go_ret
      exact ⟨⟨_, rfl, by omega, fun h => absurd h (by omega)⟩, BV.out⟩
    · rw [if_neg h2]
      go_wp2
      go_ret
      exact ⟨⟨_, rfl, by omega, fun _ => ⟨(Q2.out (by omega)).1, by omega, (Q2.out (by omega)).2⟩⟩, BV.out⟩
set_option maxRecDepth 100000 in
set_option maxHeartbeats 8000000 in
theorem c_szN (a : Option Addr) (n cap : Nat) (vs : List TNode) (left : Int) (w : World) (hr : RdN w a n vs) (hm : n ≤ maxLen) (hs : ∀ i, i < n → (vs.getD i zeroN).kn ≤ maxLen ∧ (∀ s ∈ (vs.getD i zeroN).ks, s.size ≤ maxLen) ∧ (vs.getD i zeroN).im ≤ maxLen) (h0 : 0 ≤ left) (h1 : left ≤ 1048576) :
    Calls Try.prog 55 #[.slice a n cap, .int .i64 left] w fun e w' => (∃ z : Int, e = .returned (.int .i64 z) ∧ z ≤ left ∧ (0 ≤ z → n ≤ 1048576 ∧ ∀ i, i < n → FitN (vs.getD i zeroN))) ∧ Below w.heap.size w w' := by
  unfold maxLen at hm
  obtain ⟨hl, hcs, hin⟩ := hr
  have HIN : Hid (∀ i, i < n → InN w (vs.getD i zeroN)) := hin
  have HS : Hid (∀ i, i < n → (vs.getD i zeroN).kn ≤ maxLen ∧ (∀ s ∈ (vs.getD i zeroN).ks, s.size ≤ maxLen) ∧ (vs.getD i zeroN).im ≤ maxLen) := hs
  clear hin hs
  by_cases hn : left - n < 0
  · go_enter Try.func55, Try.ntmps55
    go_wp2
    go_ret
    exact ⟨⟨_, rfl, by omega, fun h => absurd h (by omega)⟩, Below.refl _ _⟩
  · go_enter Try.func55, Try.ntmps55
    go_wp2
    go_loopw [1, 5] (fun m i wr => ∃ (k : Nat) (l : Int), k ≤ n ∧ 0 ≤ l ∧ l ≤ left ∧ i = .int .i64 k ∧ m = .int .i64 l ∧ Hid (∀ j, j < k → FitN (vs.getD j zeroN)) ∧ Below w.heap.size w wr) (fun _ i _ => n - (intOf i).toNat)
    case atStart => exact ⟨0, left - n, by omega, by omega, by omega, rfl, rfl, fun j hj => absurd hj (by omega), Below.refl _ _⟩
    case round =>
      obtain ⟨k, l, hk, hl0, hl1, rfl, rfl, HL, hb⟩ := hrel
      by_cases hlt : k < n
      · obtain ⟨b, off, rfl, hbl, hc⟩ := hcs (by omega)
        obtain ⟨d0, d1, d2⟩ := hc k hlt
        have RG := (HIN.out k hlt).1.below hb
        obtain ⟨M1, M2, M3⟩ := HS.out k hlt
        obtain ⟨⟨lf, ka, kn, kc, ks, ia, im, ic, js⟩, hv⟩ : ∃ v, v = vs.getD k zeroN := ⟨_, rfl⟩
        have HV : Hid ((⟨lf, ka, kn, kc, ks, ia, im, ic, js⟩ : TNode) = vs.getD k zeroN) := hv
        rw [← hv] at d0 d1 d2 RG M1 M2 M3
        dsimp only at d0 d1 d2 RG M1 M2 M3
        have e0 := (hb.cell (p := ⟨b, off + k * 3, none⟩) hbl).trans d0
        have e1 := (hb.cell (p := ⟨b, off + k * 3 + 1, none⟩) hbl).trans d1
        have e2 := (hb.cell (p := ⟨b, off + k * 3 + 2, none⟩) hbl).trans d2
        have C := c_szN1 lf ka kn kc ks ia im ic l wr RG M1 M2 M3 hl0 (by omega)
        clear hc hcs hv HS HIN RG M1 M2 M3 d0 d1 d2
        go_wp2_with fail
        refine C.mono ?_
        rintro e w1 ⟨⟨z, rfl, hzl, hz⟩, hb1⟩
        have hb' : Below w.heap.size w w1 := hb.trans (hb1.mono hb.size)
        have HZ : Hid (0 ≤ z → FitN ⟨lf, ka, kn, kc, ks, ia, im, ic, js⟩) := hz
        clear hb1 hz hb e0 e1 e2 C
        by_cases hneg : z < 0
        · go_wp2
          go_ret
          exact ⟨⟨_, rfl, by omega, fun h => absurd h (by omega)⟩, hb'⟩
        · go_wp2
          go_roundw
          case rel => exact ⟨k + 1, z, by omega, by omega, by omega, by go_num, rfl, fun j hj => by
                        by_cases e : j = k
                        · subst e; rw [← HV.out]; exact HZ.out (by omega)
                        · exact HL.out j (by omega), hb'⟩
          case measure => simp [intOf]; omega
      · have e : k = n := by omega
        subst e
        go_wp2
        go_ret
        exact ⟨⟨_, rfl, by omega, fun _ => ⟨by omega, HL.out⟩⟩, hb⟩

end Go.Proofs.Ythnggpjgajkaeaa
