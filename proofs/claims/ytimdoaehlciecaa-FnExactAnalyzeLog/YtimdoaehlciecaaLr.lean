/-
  LogLinks of the program.
-/
import Derived.Test.YtimdoaehlciecaaLq
import Derived.Test.YtimdoaehlciecaaYsa
import Derived.Deep.RegionHeld3
namespace Go.Proofs.Ytimdoaehlciecaa
open Go Go.RowKit
attribute [local go_sem ↓] Go.wp_at_zero Go.wp_at_succ

def llC (n : Nat) (L : List DR) : Int := if 4096 < n then 2 else if 60 < n then 6 else if inPl 0 L then 0 else 1
def llR (n : Nat) (L : List DR) : Bool := if 60 < n then false else if inPl 0 L then lnkI L (fun _ => 0) L else false
theorem ret_bi {a b : Bool} {c d : Int} (h : a = b) (h' : c = d) : Ending.returned (.tuple #[.bool a, .int .i64 c]) = .returned (.tuple #[.bool b, .int .i64 d]) := by rw [h, h']
/-- The array of the transactions' last ones. -/
def arr (f : Nat → Int) : Array Value := Array.ofFn fun i : Fin 61 => Value.int .i64 (f i.val)
def ArB (w : World) (B : Nat) (f : Nat → Int) : Prop := Box w B 47 (arr f)
theorem ArB.cell {w : World} {B : Nat} {f : Nat → Int} (h : ArB w B f) {m : Nat} (hm : m < 61) : w.cell? ⟨B, m, none⟩ = some (.int .i64 (f m)) := by
  have := Box.cell h m
  rw [this]
  simp [arr, hm]
theorem ArB.set {w : World} {B : Nat} {f : Nat → Int} (h : ArB w B f) {m : Nat} (_ : m < 61) (x : Int) : ArB (w.setCell ⟨B, m, none⟩ (.int .i64 x)) B (updN f m x) := by
  have := Box.set h m (.int .i64 x)
  unfold ArB
  rw [show arr (updN f m x) = (arr f).setIfInBounds m (.int .i64 x) from ?_]
  · exact this
  · apply Array.ext
    · simp [arr]
    · intro i h1 h2
      simp [arr] at h1
      rw [Array.getElem_setIfInBounds (by simp [arr]; omega)]
      by_cases e : m = i
      · subst e; simp [arr, updN]
      · simp [arr, updN, e, Ne.symm e]
theorem ar0 : arr (fun _ => 0) = #[.int .i64 0, .int .i64 0, .int .i64 0, .int .i64 0, .int .i64 0, .int .i64 0, .int .i64 0, .int .i64 0, .int .i64 0, .int .i64 0, .int .i64 0, .int .i64 0, .int .i64 0, .int .i64 0, .int .i64 0, .int .i64 0, .int .i64 0, .int .i64 0, .int .i64 0, .int .i64 0, .int .i64 0, .int .i64 0, .int .i64 0, .int .i64 0, .int .i64 0, .int .i64 0, .int .i64 0, .int .i64 0, .int .i64 0, .int .i64 0, .int .i64 0, .int .i64 0, .int .i64 0, .int .i64 0, .int .i64 0, .int .i64 0, .int .i64 0, .int .i64 0, .int .i64 0, .int .i64 0, .int .i64 0, .int .i64 0, .int .i64 0, .int .i64 0, .int .i64 0, .int .i64 0, .int .i64 0, .int .i64 0, .int .i64 0, .int .i64 0, .int .i64 0, .int .i64 0, .int .i64 0, .int .i64 0, .int .i64 0, .int .i64 0, .int .i64 0, .int .i64 0, .int .i64 0, .int .i64 0, .int .i64 0] := by kernel_rfl
theorem arB0 (w : World) : ArB (w.alloc (.cells #[.int .i64 0, .int .i64 0, .int .i64 0, .int .i64 0, .int .i64 0, .int .i64 0, .int .i64 0, .int .i64 0, .int .i64 0, .int .i64 0, .int .i64 0, .int .i64 0, .int .i64 0, .int .i64 0, .int .i64 0, .int .i64 0, .int .i64 0, .int .i64 0, .int .i64 0, .int .i64 0, .int .i64 0, .int .i64 0, .int .i64 0, .int .i64 0, .int .i64 0, .int .i64 0, .int .i64 0, .int .i64 0, .int .i64 0, .int .i64 0, .int .i64 0, .int .i64 0, .int .i64 0, .int .i64 0, .int .i64 0, .int .i64 0, .int .i64 0, .int .i64 0, .int .i64 0, .int .i64 0, .int .i64 0, .int .i64 0, .int .i64 0, .int .i64 0, .int .i64 0, .int .i64 0, .int .i64 0, .int .i64 0, .int .i64 0, .int .i64 0, .int .i64 0, .int .i64 0, .int .i64 0, .int .i64 0, .int .i64 0, .int .i64 0, .int .i64 0, .int .i64 0, .int .i64 0, .int .i64 0, .int .i64 0] 47)) w.heap.size (fun _ => 0) := by unfold ArB; rw [ar0]; exact Box.new w _ _
theorem okLR_t {v : DR} (h : okLR v = true) (h6 : v.k ≠ 6) : 0 ≤ v.t ∧ v.t < 61 := by
  rcases (rec_parts h).2 with ⟨h0, _⟩ | ⟨_, h1, _⟩
  · exact absurd h0 h6
  · omega
set_option maxRecDepth 100000 in
set_option maxHeartbeats 8000000 in
theorem c_implLL (a : Option Addr) (n cap : Nat) (L : List DR) (w : World) (hr : RdQ w a n L) (hn : n ≤ 1048576) (hs : ∀ v ∈ L, v.b.size ≤ maxLen ∧ v.a.size ≤ maxLen) :
    Calls Try.prog 9 #[.slice a n cap] w fun e w' => e = .returned (.tuple #[.bool (llR n L), .int .i64 (llC n L)]) ∧ Below w.heap.size w w' := by
  by_cases h1 : 4096 < n
  · have E : Hid (llR n L = false ∧ llC n L = 2) := by unfold Hid llR llC; rw [if_pos (by omega), if_pos h1]; exact ⟨rfl, rfl⟩
    clear hr hs
    go_enter Try.func9, Try.ntmps9
    go_wp2
    go_ret2
    exact ⟨ret_bi E.out.1.symm E.out.2.symm, Below.refl _ _⟩
  by_cases h2 : 60 < n
  · have E : Hid (llR n L = false ∧ llC n L = 6) := by unfold Hid llR llC; rw [if_pos h2, if_neg h1, if_pos h2]; exact ⟨rfl, rfl⟩
    clear hr hs
    go_enter Try.func9, Try.ntmps9
    go_wp2
    go_ret2
    exact ⟨ret_bi E.out.1.symm E.out.2.symm, Below.refl _ _⟩
  have CP := c_inPlace a n cap L w hr (by omega) hs
  cases hip : inPl 0 L
  · have E : Hid (llR n L = false ∧ llC n L = 1) := by unfold Hid llR llC; rw [if_neg h2, if_neg h1, if_neg h2, hip]; exact ⟨rfl, rfl⟩
    rw [hip] at CP
    clear hr hs hip
    go_enter Try.func9, Try.ntmps9
    go_wp2_with fail
    refine CP.mono ?_
    rintro e w1 ⟨rfl, hb⟩
    go_wp2
    go_ret2
    exact ⟨ret_bi E.out.1.symm E.out.2.symm, hb⟩
  have E0 : Hid (llR n L = lnkI L (fun _ => 0) L ∧ llC n L = 0) := by unfold Hid llR llC; rw [if_neg h2, if_neg h1, if_neg h2, hip]; exact ⟨rfl, rfl⟩
  have HOK : Hid (∀ j, j < L.length → okLR (L.getD j zeroR) = true) := fun j hj => (inPl_all L 0 hip j hj).1
  rw [hip] at CP
  clear hs hip
  have hl := hr.1
  have RL : Hid (RdQ w a n L) := hr
  clear hr
  go_enter Try.func9, Try.ntmps9
  go_wp2_with fail
  refine CP.mono ?_
  rintro e w1 ⟨rfl, hb⟩
  have B1 : Hid (Below w.heap.size w w1) := hb
  clear hb CP
  go_wp2
  go_loopw [18] (fun i wr => ∃ (k : Nat) (f : Nat → Int), k ≤ n ∧ i = .int .i64 k ∧ Hid (lnkI L f (L.drop k) = lnkI L (fun _ => 0) L) ∧ Hid (ArB wr w1.heap.size f) ∧ Hid (Below w.heap.size w wr)) (fun i _ => n - (intOf i).toNat)
  case atStart => exact ⟨0, fun _ => 0, by omega, rfl, rfl, arB0 w1, B1.out.alloc B1.out.size _⟩
  case round =>
    obtain ⟨k, f, hk, rfl, HI, HA, BW⟩ := hrel
    by_cases hlt : k < n
    · have RQ := RL.out.below BW.out
      obtain ⟨b, off, hla, hbl, hc⟩ := RQ.2 (by omega)
      subst hla
      obtain ⟨⟨ve, vl, vt, vk, vp, vn, vg, vz, vb, va⟩, hv⟩ : ∃ v, v = L.getD k zeroR := ⟨_, rfl⟩
      obtain ⟨e0, e1, e2, e3, e4, e5, e6, e7, e8, e9⟩ := RdQ.at hc hlt hv
      dsimp only at e0 e1 e2 e3 e4 e5 e6 e7 e8 e9
      have HAT := lnkI_at (L := L) (vs := L) (f := f) (k := k) (by omega)
      have HO := HOK.out k (by omega)
      rw [← hv] at HAT HO
      have HAT' : Hid (_ = _) := HAT
      have HO' : Hid (_ = _) := HO
      have g1 : (0 : Int) ≤ (k : Int) := by omega
      have g2 : (k : Int) < (n : Int) := by omega
      obtain ⟨W, hW⟩ : ∃ W, wr.alloc (.cells #[.int .i64 ve, .int .i64 vl, .int .i64 vt, .int .i64 vk, .int .i64 vp, .int .i64 vn, .int .i64 vg, .int .i64 vz, .string vb, .string va] 43) = W := ⟨_, rfl⟩
      have hbA : Below wr.heap.size wr W := by rw [← hW]; exact (Below.refl _ _).alloc (Nat.le_refl _) _
      have BX : Hid (Below w.heap.size w W) := BW.out.trans (hbA.mono BW.out.size)
      have TW : Hid (ArB W w1.heap.size f) := Box.belowS HA.out hbA
      have NW : Hid (Box W wr.heap.size 43 #[.int .i64 ve, .int .i64 vl, .int .i64 vt, .int .i64 vk, .int .i64 vp, .int .i64 vn, .int .i64 vg, .int .i64 vz, .string vb, .string va]) := by unfold Hid; rw [← hW]; exact Box.new _ _ _
      have nb : Hid (w1.heap.size < wr.heap.size) := HA.out.lt
      have nb1 : Hid (w.heap.size ≤ w1.heap.size) := B1.out.size
      clear hc hv HAT HO hbA HA RQ
      obtain ⟨y0, y1, y2, y3, y4, y5, y6, y7, y8, y9⟩ := box10 NW.out
      by_cases k6 : vk = 6
      · have E : Hid (lnkI L f (L.drop (k + 1)) = lnkI L (fun _ => 0) L) := by unfold Hid; rw [← HI.out, HAT'.out, if_pos k6]
        have c1 : (vk == 6) = true := by simpa using k6
        clear HI HAT' HO' NW k6
        go_wp2
        go_roundw
        case rel => exact ⟨k + 1, f, by omega, by go_num, E, TW, BX⟩
        case measure => simp [intOf]; omega
      have c1 : (vk == 6) = false := by simpa using k6
      have HT := okLR_t HO'.out k6
      dsimp only at HT
      obtain ⟨m, rfl⟩ : ∃ m : Nat, vt = (m : Int) := ⟨vt.toNat, by omega⟩
      have hm61 : m < 61 := by omega
      have q1 : (0 : Int) ≤ (m : Int) := by omega
      have q2 : (m : Int) < 61 := by omega
      have HQ : Hid (lnkI L f (L.drop k) = (folI L ⟨ve, vl, (m : Int), vk, vp, vn, vg, vz, vb, va⟩ (f m) && lnkI L (updN f m vl) (L.drop (k + 1)))) := by
        unfold Hid
        rw [HAT'.out, if_neg k6]
        rfl
      have cT := TW.out.cell hm61
      have C : Hid (∀ wx, Below W.heap.size W wx → Calls Try.prog 26 #[.slice (some ⟨b, off, none⟩) n cap, .agg #[.int .i64 ve, .int .i64 vl, .int .i64 (m : Int), .int .i64 vk, .int .i64 vp, .int .i64 vn, .int .i64 vg, .int .i64 vz, .string vb, .string va], .int .i64 (f m)] wx fun e w' => e = .returned (.bool (folI L ⟨ve, vl, (m : Int), vk, vp, vn, vg, vz, vb, va⟩ (f m))) ∧ Below wx.heap.size wx w') := fun wx hx => c_follows _ n cap L _ _ _ _ _ _ _ _ _ _ _ wx ((RL.out.below BX.out).below hx) hn
      clear HAT' HO' HT k6 NW
      go_wp2_with fail
      clear e0 e1 e2 e3 e4 e5 e6 e7 e8 e9
      go_region_held3 (fun x => x.cell? ⟨wr.heap.size, 0, none⟩ = some (.int .i64 ve) ∧ x.cell? ⟨wr.heap.size, 1, none⟩ = some (.int .i64 vl) ∧ x.cell? ⟨wr.heap.size, 2, none⟩ = some (.int .i64 m) ∧ x.cell? ⟨wr.heap.size, 3, none⟩ = some (.int .i64 vk) ∧ x.cell? ⟨wr.heap.size, 4, none⟩ = some (.int .i64 vp) ∧ x.cell? ⟨wr.heap.size, 5, none⟩ = some (.int .i64 vn) ∧ x.cell? ⟨wr.heap.size, 6, none⟩ = some (.int .i64 vg) ∧ x.cell? ⟨wr.heap.size, 7, none⟩ = some (.int .i64 vz) ∧ x.cell? ⟨wr.heap.size, 8, none⟩ = some (.string vb) ∧ x.cell? ⟨wr.heap.size, 9, none⟩ = some (.string va) ∧ x.cell? ⟨w1.heap.size, m, none⟩ = some (.int .i64 (f m)))
        (first | (exact ⟨far6 hb3 y0, far6 hb3 y1, far6 hb3 y2, far6 hb3 y3, far6 hb3 y4, far6 hb3 y5, far6 hb3 y6, far6 hb3 y7, far6 hb3 y8, far6 hb3 y9, far6 hb3 cT⟩) | go_keep)
        (first | (go_at_call 26; refine (C.out _ (by first | exact below_drewN (Below.refl _ _) _ | exact Below.refl _ _)).mono ?_; rintro e w3 ⟨rfl, hb3⟩))
      have hb' : Below w.heap.size w w3 := BX.out.drew.trans (hb3.mono BX.out.size)
      have T3 : Hid (ArB w3 w1.heap.size f) := Box.belowS TW.out ((Below.refl _ _).drew.trans hb3)
      have z1 : w3.cell? ⟨wr.heap.size, 1, none⟩ = some (.int .i64 vl) := far6 hb3 y1
      have z2 : w3.cell? ⟨wr.heap.size, 2, none⟩ = some (.int .i64 m) := far6 hb3 y2
      have B3 : Hid (Below w.heap.size w w3) := hb'
      clear hb3 hb' C y0 y1 y2 y3 y4 y5 y6 y7 y8 y9 cT hW TW BX BW
      have cT := T3.out.cell hm61
      have tT := Box.thaw T3.out m
      cases hf : folI L ⟨ve, vl, (m : Int), vk, vp, vn, vg, vz, vb, va⟩ (f m)
      · have E : Hid (llR n L = false ∧ llC n L = 0) := ⟨by rw [E0.out.1, ← HI.out, HQ.out, hf]; rfl, E0.out.2⟩
        clear hf HQ
        go_wp2
        go_ret2
        exact ⟨ret_bi E.out.1.symm E.out.2.symm, B3.out⟩
      · have E : Hid (lnkI L (updN f m vl) (L.drop (k + 1)) = lnkI L (fun _ => 0) L) := by unfold Hid; rw [← HI.out, HQ.out, hf]; rfl
        have T4 : Hid (ArB (w3.setCell ⟨w1.heap.size, m, none⟩ (.int .i64 vl)) w1.heap.size (updN f m vl)) := T3.out.set hm61 vl
        have B4 : Hid (Below w.heap.size w (w3.setCell ⟨w1.heap.size, m, none⟩ (.int .i64 vl))) := B3.out.setCell nb1.out _
        clear hf HQ T3 B3 HI
        go_wp2
        go_roundw
        case rel => exact ⟨k + 1, updN f m vl, by omega, by go_num, E, T4, B4⟩
        case measure => simp [intOf]; omega
    · have e : k = n := by omega
      subst e
      have E : Hid (llR k L = true ∧ llC k L = 0) := ⟨by rw [E0.out.1, ← HI.out, List.drop_eq_nil_of_le (by omega)]; rfl, E0.out.2⟩
      go_wp2
      go_ret2
      exact ⟨ret_bi E.out.1.symm E.out.2.symm, BW.out⟩

end Go.Proofs.Ytimdoaehlciecaa
