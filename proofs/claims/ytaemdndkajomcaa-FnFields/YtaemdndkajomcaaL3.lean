/-
  The walk of the law of fields.
-/
import Derived.Test.YtaemdndkajomcaaFm
import Derived.Test.YtaemdndkajomcaaDt
namespace Go.Proofs.Ytaemdndkajomcaa
open Go Go.RowKit
attribute [local go_sem ↓] Go.wp_at_zero Go.wp_at_succ


set_option maxRecDepth 100000 in
set_option maxHeartbeats 4000000 in
theorem law_FnFields (a : Option Addr) (n c : Nat) (zs : List Int) (a' : Option Addr) (n' c' : Nat) (zs' : List Int) (w : World) (hr : RdV w a n (zs.map (Value.int .u8))) (hz : ∀ z ∈ zs, 0 ≤ z ∧ z < 256) (hm : n ≤ maxLen) (hr' : RdV w a' n' (zs'.map (Value.int .u8))) (hz' : ∀ z ∈ zs', 0 ≤ z ∧ z < 256) (hc' : n' ≤ c') (hm' : c' ≤ maxLen) :
    Calls Try.prog 3 #[.slice a n c, .slice a' n' c'] w fun e w' => e = .returned (.bool true) ∧ Below w.heap.size w w' := by
  have HM : Hid (c' ≤ maxLen) := hm'
  unfold maxLen at hm hm'
  have HR : Hid (RdV w a n (zs.map (Value.int .u8))) := hr
  have HZ : Hid (∀ z ∈ zs, 0 ≤ z ∧ z < 256) := hz
  have HR' : Hid (RdV w a' n' (zs'.map (Value.int .u8))) := hr'
  have HZ' : Hid (∀ z ∈ zs', 0 ≤ z ∧ z < 256) := hz'
  have hl' : Hid (zs'.length = n') := by unfold Hid; simpa using hr'.1
  clear hr hz hr' hz'
  by_cases hbig : 1048576 < n
  · go_enter Try.func3, Try.ntmps3
    go_wp2
    go_ret
    exact ⟨rfl, Below.refl _ _⟩
  by_cases hbig' : 1048576 < n'
  · go_enter Try.func3, Try.ntmps3
    go_wp2
    go_ret
    exact ⟨rfl, Below.refl _ _⟩
  go_enter Try.func3, Try.ntmps3
  go_wp2_with fail
  refine (c_textsOf a n c zs w HR.out HZ.out (by omega)).mono ?_
  rintro e w1 ⟨⟨K, ka, kc, rfl, hK, hs, o⟩, hb⟩
  have B1 : Hid (Below w.heap.size w w1) := hb
  have HS : Hid (∀ s ∈ K, s.size ≤ 255) := hs
  have OK1 : Hid (w1.ownsRow w.heap.size 9 1 (.slice ka K.length kc) K.length (K.map Value.string)) := o
  have WR : Hid (errF K K.length = 0 ∧ resF K K.length = fbZ K K.length K.length ∧ errR (fbZ K K.length K.length) = 0 ∧ resR (fbZ K K.length K.length) = K) := write_read rfl (by omega) hs
  have HF : Hid (∀ z ∈ fbZ K K.length K.length, 0 ≤ z ∧ z < 256) := bytes_fb (by omega) hs
  have hfl : Hid ((fbZ K K.length K.length).length ≤ 65536) := by have := fbZ_len (ss := K) (n := K.length) K.length (Nat.le_refl _) (okF_of hs _); unfold Hid; omega
  clear hb hs o
  obtain ⟨Z, hZ⟩ : ∃ Z, Z = fbZ K K.length K.length := ⟨_, rfl⟩
  rw [← hZ] at WR HF hfl
  clear hZ
  go_wp2_with fail
  refine (c_implF ka K.length kc K w1 (RdV.own OK1.out) (by omega) (fun s h => by have := HS.out s h; omega)).mono ?_
  rintro e w2 ⟨ba, bc, rfl, ob, hb⟩
  rw [WR.out.2.1] at ob
  rw [WR.out.1, WR.out.2.1]
  have B2 : Hid (Below w.heap.size w w2) := B1.out.trans (hb.mono B1.out.size)
  have OK2 : Hid (w2.ownsRow w.heap.size 9 1 (.slice ka K.length kc) K.length (K.map Value.string)) := own_below OK1.out hb
  have OB2 : Hid (w2.ownsRow w1.heap.size 5 1 (.slice ba Z.length bc) Z.length (Z.map (Value.int .u8))) := ob
  have CB : Hid (Z.length ≤ bc ∧ bc ≤ maxLen) := own_cap ob
  clear hb ob B1 OK1
  go_wp2_with fail
  refine (c_specF ka K.length kc K w2 (RdV.own OK2.out) (by omega) (fun s h => by have := HS.out s h; omega)).mono ?_
  rintro e w3 ⟨sa, sc, rfl, ob, hb⟩
  rw [WR.out.2.1] at ob
  rw [WR.out.1, WR.out.2.1]
  have B3 : Hid (Below w.heap.size w w3) := B2.out.trans (hb.mono B2.out.size)
  have OK3 : Hid (w3.ownsRow w.heap.size 9 1 (.slice ka K.length kc) K.length (K.map Value.string)) := own_below OK2.out hb
  have OB3 : Hid (w3.ownsRow w1.heap.size 5 1 (.slice ba Z.length bc) Z.length (Z.map (Value.int .u8))) := own_below OB2.out hb
  have OS3 : Hid (w3.ownsRow w2.heap.size 5 1 (.slice sa Z.length sc) Z.length (Z.map (Value.int .u8))) := ob
  clear hb ob B2 OK2 OB2
  go_wp2_with fail
  refine (c_implR ba Z.length bc Z w3 (RdV.own OB3.out) HF.out (by have := hfl.out; omega) CB.out.1 CB.out.2).mono ?_
  rintro e w4 ⟨ra, rc, rfl, ob, hb⟩
  rw [WR.out.2.2.2] at ob
  rw [WR.out.2.2.1, WR.out.2.2.2]
  have B4 : Hid (Below w.heap.size w w4) := B3.out.trans (hb.mono B3.out.size)
  have OK4 : Hid (w4.ownsRow w.heap.size 9 1 (.slice ka K.length kc) K.length (K.map Value.string)) := own_below OK3.out hb
  have OB4 : Hid (w4.ownsRow w1.heap.size 5 1 (.slice ba Z.length bc) Z.length (Z.map (Value.int .u8))) := own_below OB3.out hb
  have OS4 : Hid (w4.ownsRow w2.heap.size 5 1 (.slice sa Z.length sc) Z.length (Z.map (Value.int .u8))) := own_below OS3.out hb
  have OR4 : Hid (w4.ownsRow w3.heap.size 9 1 (.slice ra K.length rc) K.length (K.map Value.string)) := ob
  clear hb ob B3 OK3 OB3 OS3
  have cv1 := conv8 (cap := bc) (RdV.own OB4.out)
  have cv2 := conv8 (cap := sc) (RdV.own OS4.out)
  have SM : Hid (∀ W, W = w4 → Calls Try.prog 15 #[.slice ra K.length rc, .slice ka K.length kc] W fun e w' => e = .returned (.bool true) ∧ ∃ q, w' = W.drewN q) := fun W hW => by
    subst hW
    refine (c_same ra ka K.length rc K.length kc K K W (RdV.own OR4.out) (RdV.own OK4.out) (by omega) (by omega)).mono ?_
    rintro e w' ⟨rfl, hq⟩
    rw [decide_eq_true (rfl : K = K)]
    exact ⟨rfl, hq⟩
  have hxx : ((strOfNums Z).toList == (strOfNums Z).toList) = true := by simp
  go_wp2_with fail
  refine (SM.out _ rfl).mono ?_
  rintro e w5 ⟨rfl, q, hq⟩
  have B5 : Hid (Below w.heap.size w w5) := by unfold Hid; rw [hq]; exact below_drewN B4.out q
  clear hq B4 OK4 OB4 OS4 OR4 cv1 cv2 SM hxx WR HF hfl CB HS
  go_wp2_with fail
  refine (c_implR a' n' c' zs' w5 (HR'.out.below B5.out) HZ'.out (by omega) hc' HM.out).mono ?_
  rintro e w6 ⟨xa, xc, rfl, ob, hb⟩
  have B6 : Hid (Below w.heap.size w w6) := B5.out.trans (hb.mono B5.out.size)
  have OX6 : Hid (w6.ownsRow w5.heap.size 9 1 (.slice xa (resR zs').length xc) (resR zs').length ((resR zs').map Value.string)) := ob
  clear hb ob B5
  go_wp2_with fail
  refine (c_specR a' n' c' zs' w6 (HR'.out.below B6.out) HZ'.out (by omega)).mono ?_
  rintro e w7 ⟨ya, yc, rfl, ob, hb⟩
  have B7 : Hid (Below w.heap.size w w7) := B6.out.trans (hb.mono B6.out.size)
  have OX7 : Hid (w7.ownsRow w5.heap.size 9 1 (.slice xa (resR zs').length xc) (resR zs').length ((resR zs').map Value.string)) := own_below OX6.out hb
  clear hb ob B6 OX6
  obtain ⟨E, hE⟩ : ∃ E, E = errR zs' := ⟨_, rfl⟩
  rw [← hE]
  have hEE : (E != E) = false := by simp
  by_cases h0 : E = 0
  · have RW : Hid (errF (resR zs') (resR zs').length = 0 ∧ resF (resR zs') (resR zs').length = zs' ∧ (resR zs').length ≤ 100 ∧ ∀ s ∈ resR zs', s.size ≤ 255) := read_write HZ'.out (by rw [← hE]; exact h0)
    rw [h0] at hEE
    rw [h0]
    clear hE h0
    obtain ⟨X, hX⟩ : ∃ X, X = resR zs' := ⟨_, rfl⟩
    rw [← hX] at RW OX7
    rw [← hX]
    clear hX
    go_wp2_with fail
    refine (c_implF xa X.length xc X w7 (RdV.own OX7.out) (by have := RW.out.2.2.1; omega) (fun s h => by have := RW.out.2.2.2 s h; omega)).mono ?_
    rintro e w8 ⟨ga, gc, rfl, ob, hb⟩
    rw [RW.out.2.1] at ob
    rw [RW.out.1, RW.out.2.1]
    have B8 : Hid (Below w.heap.size w w8) := B7.out.trans (hb.mono B7.out.size)
    have cv1 := conv8 (cap := gc) (RdV.own ob)
    have cv2 := conv8 (cap := c') (HR'.out.below B8.out)
    have hxx : ((strOfNums zs').toList == (strOfNums zs').toList) = true := by simp
    clear hb ob B7 OX7 RW
    go_wp2
    go_ret
    exact ⟨rfl, B8.out⟩
  · have hE0 : (E != 0) = true := by simpa using h0
    clear hE h0
    go_wp2
    go_ret
    exact ⟨rfl, B7.out⟩

end Go.Proofs.Ytaemdndkajomcaa
