/-
  Keys that are read: a word at the front; the first value of a row of bytes.
-/
import Derived.Test.YtkfkhfagehcmiaaDoorKf
namespace Go.Proofs.YtkfkhfagehcmiaaDoor
open Go Go.RowKit
attribute [local go_sem ↓] Go.wp_at_zero Go.wp_at_succ


theorem idx_none {r : List Int} (hz : ∀ z ∈ r, 0 ≤ z ∧ z < 256) (h : zi r = r.length) : Lib.indexByte (Lib.bytesOf ((3 : Int) :: r)) (0 : Int).toNat.toUInt8 = -1 := by
  have := zi_index ((3 : Int) :: r) (fun z hm => by rcases List.mem_cons.1 hm with rfl | hm; omega; exact hz z hm)
  have e : zi ((3 : Int) :: r) = zi r + 1 := by rw [zi, if_neg (by omega)]
  rw [e, if_pos (by simp; omega)] at this
  exact this
theorem idx_some {r : List Int} (hz : ∀ z ∈ r, 0 ≤ z ∧ z < 256) (h : ¬ zi r = r.length) : Lib.indexByte (Lib.bytesOf ((3 : Int) :: r)) (0 : Int).toNat.toUInt8 = (zi r : Int) + 1 := by
  have := zi_index ((3 : Int) :: r) (fun z hm => by rcases List.mem_cons.1 hm with rfl | hm; omega; exact hz z hm)
  have e : zi ((3 : Int) :: r) = zi r + 1 := by rw [zi, if_neg (by omega)]
  rw [e, if_neg (by simp; omega)] at this
  rw [show (zi r : Int) + 1 = ((zi r + 1 : Nat) : Int) by omega]
  exact this
set_option maxRecDepth 100000 in
set_option maxHeartbeats 2000000 in
theorem c_first3 (b off n cap : Nat) (r : List Int) (w : World) (hr : RdV w (some ⟨b, off, none⟩) n (((3 : Int) :: r).map (Value.int .u8))) (hz : ∀ z ∈ r, 0 ≤ z ∧ z < 256) (hcap : n ≤ cap) (hn : n ≤ 65536) :
    Calls Tryd.prog 25 #[.slice (some ⟨b, off, none⟩) n cap] w (AnsV w 3 r) := by
  have hl : r.length + 1 = n := by simpa using hr.1
  have HR : Hid (RdV w (some ⟨b, off, none⟩) n (((3 : Int) :: r).map (Value.int .u8))) := hr
  obtain ⟨b', off', e, hbl, hc⟩ := hr.2 (by omega)
  cases e
  have hc0 : w.cell? ⟨b, off, none⟩ = some (.int .u8 3) := by have := hc 0 (by omega); simpa using this
  have g2 : (0 : Int) < (n : Int) := by omega
  have hn0 : 0 < n := by omega
  have hle := zi_le r
  clear hc hr
  by_cases hf : zi r = r.length
  · have HP : Hid (pv 3 r = none) := pv3 hf
    have HE := idx_none hz hf
    clear hf hle hl
    go_enter Tryd.func25, Tryd.ntmps25
    go_wp2_with fail
    refine (c_index b off n cap ((3 : Int) :: r) 0 _ (HR.out.below (((Below.refl w.heap.size w).alloc (Nat.le_refl _) _).alloc (by simp) _)) hn0).mono ?_
    rw [HE]
    rintro e w1 ⟨rfl, rfl⟩
    clear HE
    go_wp2
    refine retV2 (v := .int .i64 0) rfl rfl rfl rfl ((Box.new w _ _).alloc _) ?_
    exact ansV_none HP.out (((Below.refl w.heap.size w).alloc (Nat.le_refl _) _).alloc (by simp) _)
  obtain ⟨q, hq⟩ : ∃ q, q = zi r := ⟨_, rfl⟩
  have hp := pv3' hf
  have HE := idx_some hz hf
  rw [← hq] at hp HE hle
  have hqn : q + 2 ≤ n := by omega
  obtain ⟨x, hx⟩ : ∃ x, x = strOfNums (r.take q) := ⟨_, rfl⟩
  rw [← hx] at hp
  have hxs : x.size ≤ maxLen := by rw [hx, strOfNums_size]; unfold maxLen; simp; omega
  have hcv : ∀ (W : World) c, Below w.heap.size w W → (convert 30 9 (.slice (some ⟨b, off + 1, none⟩) q c)).run Tryd.prog W = .ok (.string x) W := fun W c hW => by
    rw [hx]
    have := (HR.out.below hW).cut 1 q (by omega)
    rw [List.drop_one, List.tail_cons] at this
    exact conv8 this
  have hcv := fun c => hcv ((w.alloc (.cells #[.int .i64 0, .int .i64 0, .string ⟨#[]⟩] 27)).alloc (.cells #[.int .i64 2, .int .i64 0, .string ⟨#[]⟩] 27)) c (((Below.refl w.heap.size w).alloc (Nat.le_refl _) _).alloc (by simp) _)
  have A := c_implOK 2 0 x
  have g7 : (q : Int) + 1 ≤ (cap : Int) := by omega
  have g8 : (0 : Int) ≤ (q : Int) := by omega
  have g9 : (q : Int) + 2 ≤ (n : Int) := by omega
  clear hz hf hq hx hle hl
  cases hv : valB 2 0 x
  · have HP : Hid (pv 3 r = none) := by rw [chk_no hv] at hp; exact hp
    rw [hv] at A
    clear hp hv
    go_enter Tryd.func25, Tryd.ntmps25
    go_wp2_with fail
    refine (c_index b off n cap ((3 : Int) :: r) 0 _ (HR.out.below (((Below.refl w.heap.size w).alloc (Nat.le_refl _) _).alloc (by simp) _)) hn0).mono ?_
    rw [HE]
    rintro e w1 ⟨rfl, rfl⟩
    clear HE
    go_wp2_with fail
    refine (A _ hxs).mono ?_
    rintro e w2 ⟨rfl, hb2⟩
    have hq2 : Below w.heap.size w w2 := (((Below.refl w.heap.size w).alloc (Nat.le_refl _) _).alloc (by simp) _).trans (hb2.mono (by simp; omega))
    have hR2 : Box w2 w.heap.size 27 #[.int .i64 0, .int .i64 0, .string ⟨#[]⟩] := (((Box.new w _ _).alloc _).belowS hb2)
    have hV2 : Box w2 (w.heap.size + 1) 27 #[.int .i64 2, .int .i64 0, .string x] := ((Box.new2 w _ _ _).belowS hb2)
    have HR2 : Hid (Box w2 w.heap.size 27 #[.int .i64 0, .int .i64 0, .string ⟨#[]⟩]) := hR2
    obtain ⟨y0, y1, y2, k0, k1, k2⟩ := box3 hV2
    obtain ⟨u0, u1, u2, l0, l1, l2⟩ := box3 hR2
    clear A hb2 hV2 hR2 hcv
    go_wp2
    refine retV2 (v := .int .i64 0) rfl rfl rfl rfl (put3_box HR2.out _ _ _) ?_
    exact ansV_none HP.out (put3_below hq2 (Nat.le_refl _) _ _ _)
  · have HP : Hid (pv 3 r = some ((2, 0, x), q + 2)) := by rw [chk_yes hv] at hp; exact hp
    rw [hv] at A
    clear hp hv
    go_enter Tryd.func25, Tryd.ntmps25
    go_wp2_with fail
    refine (c_index b off n cap ((3 : Int) :: r) 0 _ (HR.out.below (((Below.refl w.heap.size w).alloc (Nat.le_refl _) _).alloc (by simp) _)) hn0).mono ?_
    rw [HE]
    rintro e w1 ⟨rfl, rfl⟩
    clear HE
    go_wp2_with fail
    refine (A _ hxs).mono ?_
    rintro e w2 ⟨rfl, hb2⟩
    have hq2 : Below w.heap.size w w2 := (((Below.refl w.heap.size w).alloc (Nat.le_refl _) _).alloc (by simp) _).trans (hb2.mono (by simp; omega))
    have hR2 : Box w2 w.heap.size 27 #[.int .i64 0, .int .i64 0, .string ⟨#[]⟩] := (((Box.new w _ _).alloc _).belowS hb2)
    have hV2 : Box w2 (w.heap.size + 1) 27 #[.int .i64 2, .int .i64 0, .string x] := ((Box.new2 w _ _ _).belowS hb2)
    have HR2 : Hid (Box w2 w.heap.size 27 #[.int .i64 0, .int .i64 0, .string ⟨#[]⟩]) := hR2
    obtain ⟨y0, y1, y2, k0, k1, k2⟩ := box3 hV2
    obtain ⟨u0, u1, u2, l0, l1, l2⟩ := box3 hR2
    clear A hb2 hV2 hR2 hcv
    go_wp2
    refine retV2 (v := .int .i64 ((q : Int) + 2)) rfl rfl rfl rfl (put3_box HR2.out _ _ _) ?_
    exact ansV_some HP.out (by omega) (put3_below hq2 (Nat.le_refl _) _ _ _)

theorem c_first (b off n cap : Nat) (z : Int) (r : List Int) (w : World) (hr : RdV w (some ⟨b, off, none⟩) n ((z :: r).map (Value.int .u8))) (hz : ∀ y ∈ z :: r, 0 ≤ y ∧ y < 256) (hcap : n ≤ cap) (hcm : cap ≤ 9223372036854775807) (hn : n ≤ 65536) :
    Calls Tryd.prog 25 #[.slice (some ⟨b, off, none⟩) n cap] w (AnsV w z r) := by
  have hl : r.length + 1 = n := by simpa using hr.1
  obtain ⟨b', off', e, hbl, hc⟩ := hr.2 (by omega)
  cases e
  have hc0 : w.cell? ⟨b, off, none⟩ = some (.int .u8 z) := by have := hc 0 (by omega); simpa using this
  have hzr : ∀ y ∈ r, 0 ≤ y ∧ y < 256 := fun y hy => hz y (List.mem_cons_of_mem _ hy)
  by_cases h2 : z = 2
  · subst h2
    by_cases h5 : n < 5
    · exact c_first2lo b off n cap r w hbl hc0 (by omega) hl h5
    · exact c_first2 b off n cap r w hr hzr hcap hcm h5
  by_cases h3 : z = 3
  · subst h3
    exact c_first3 b off n cap r w hr hzr hcap hn
  exact c_firstx b off n cap z r w hbl hc0 (by omega) (hz z (List.mem_cons_self ..)) h2 h3

end Go.Proofs.YtkfkhfagehcmiaaDoor
