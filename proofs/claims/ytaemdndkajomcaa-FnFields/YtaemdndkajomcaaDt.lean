/-
  Drawn texts, and texts that are the same.
-/
import Derived.Test.YtaemdndkajomcaaDn
namespace Go.Proofs.Ytaemdndkajomcaa
open Go Go.RowKit
attribute [local go_sem ↓] Go.wp_at_zero Go.wp_at_succ


/-! ### Drawn texts -/
def lst4 : List ByteArray := [⟨#[]⟩, ⟨#[97]⟩, ⟨#[116, 101, 120, 116]⟩, ⟨#[0, 1]⟩]
theorem lst4_size (s : ByteArray) (h : s ∈ lst4) : s.size ≤ 255 := by
  simp [lst4] at h
  rcases h with rfl | rfl | rfl | rfl <;> decide
theorem lst4_rd (w : World) : RdV (w.alloc (.cells #[.string ⟨#[]⟩, .string ⟨#[97]⟩, .string ⟨#[116, 101, 120, 116]⟩, .string ⟨#[0, 1]⟩] 9)) (some ⟨w.heap.size, 0, none⟩) 4 (lst4.map Value.string) := by
  have hb := Box.new w #[.string ⟨#[]⟩, .string ⟨#[97]⟩, .string ⟨#[116, 101, 120, 116]⟩, .string ⟨#[0, 1]⟩] 9
  refine ⟨rfl, fun _ => ⟨w.heap.size, 0, rfl, hb.lt, fun i hi => ?_⟩⟩
  rw [Nat.zero_add, hb.cell i]
  match i, hi with
  | 0, _ => rfl
  | 1, _ => rfl
  | 2, _ => rfl
  | 3, _ => rfl
set_option maxRecDepth 100000 in
set_option maxHeartbeats 2000000 in
theorem c_texts (w0 w : World) (g : Nat) (a : Option Addr) (n c T : Nat) (zs : List Int) (h : Drw w0 w g a n c T zs) (hT : T ≤ 900000) :
    Calls Try.prog 46 #[.pointer (some ⟨g, 0, none⟩)] w fun e w' => (∃ (K : List ByteArray) (a' : Option Addr) (c' : Nat), e = .returned (.slice a' K.length c') ∧ K.length ≤ 5 ∧ (∀ s ∈ K, s.size ≤ 255) ∧ w'.ownsRow w.heap.size 9 1 (.slice a' K.length c') K.length (K.map Value.string)) ∧ Inn g (g + 1) w w' := by
  obtain ⟨i3, hi3, hz30, hz31, hz32⟩ := info_parts infoS
  have hgl : g < w.heap.size := h.src.lt
  have HD : Hid (Drw w0 (w.alloc (.cells #[] 9)) g a n c T zs) := h.below ((Below.refl _ _).alloc (Nat.le_refl _) _)
  have HO : Hid ((w.alloc (.cells #[] 9)).ownsRow w.heap.size 9 1 (.slice (some ⟨w.heap.size, 0, none⟩) 0 0) 0 []) := World.ownsRow_lit w #[] 0 (Nat.le_refl _) (Nat.zero_le _) rfl
  have HI0 : Hid (Inn g (g + 1) w (w.alloc (.cells #[] 9))) := Inn.of_below ((Below.refl _ _).alloc (Nat.le_refl _) _)
  clear h
  go_enter Try.func46, Try.ntmps46
  go_wp2_with fail
  refine (c_next w0 _ g a n c T zs 6 HD.out (by omega) (by omega)).mono ?_
  rintro e w1 ⟨⟨r, rfl, r0, r1⟩, hd, hi⟩
  obtain ⟨q, rfl⟩ : ∃ q : Nat, r = (q : Int) := ⟨r.toNat, by omega⟩
  have hq : q ≤ 5 := by omega
  have HD1 : Hid (Drw w0 w1 g a n c (T + 1) zs) := hd
  have HI1 : Hid (Inn g (g + 1) w w1) := HI0.out.trans hi
  have HO1 : Hid (w1.ownsRow w.heap.size 9 1 (.slice (some ⟨w.heap.size, 0, none⟩) 0 0) 0 []) := own_same HO.out fun x e => hi.block x (HO.out.lt x e).2 (.inr (by have e' : w.heap.size = x := Option.some.inj e; omega))
  clear hd hi HD HO HI0
  go_wp2
  go_loopw [3, 4] (fun x i wr => ∃ (k : Nat) (K : List ByteArray) (ak : Option Addr) (ck : Nat), k ≤ q ∧ i = .int .i64 k ∧ K.length + k = q ∧ x = .slice ak K.length ck ∧ Hid (∀ s ∈ K, s.size ≤ 255) ∧ wr.ownsRow w.heap.size 9 1 (.slice ak K.length ck) K.length (K.map Value.string) ∧ Drw w0 wr g a n c (T + 1 + K.length) zs ∧ Inn g (g + 1) w wr) (fun _ i _ => (intOf i).toNat)
  case atStart => exact ⟨q, [], _, 0, Nat.le_refl _, rfl, by simp, rfl, (fun _ h => by cases h), HO1.out, HD1.out, HI1.out⟩
  case round =>
    obtain ⟨k, K, ak, ck, hk, rfl, hKl, rfl, HK, hown, hd, hi⟩ := hrel
    by_cases hpos : 0 < k
    · have swr : w.heap.size ≤ wr.heap.size := hi.size
      obtain ⟨W, hW⟩ : ∃ W, wr.alloc (.cells #[.string ⟨#[]⟩, .string ⟨#[97]⟩, .string ⟨#[116, 101, 120, 116]⟩, .string ⟨#[0, 1]⟩] 9) = W := ⟨_, rfl⟩
      have hbw : Below wr.heap.size wr W := by rw [← hW]; exact (Below.refl _ _).alloc (Nat.le_refl _) _
      have HOW : Hid (W.ownsRow w.heap.size 9 1 (.slice ak K.length ck) K.length (K.map Value.string)) := own_below hown hbw
      have HIW : Hid (Inn g (g + 1) w W) := hi.trans (Inn.of_below hbw)
      have HDW : Hid (Drw w0 W g a n c (T + 1 + K.length) zs) := hd.below hbw
      have HRW : Hid (RdV W (some ⟨wr.heap.size, 0, none⟩) 4 (lst4.map Value.string)) := by unfold Hid; rw [← hW]; exact lst4_rd wr
      clear hown hd hi hbw
      go_wp2_with fail
      refine (c_pick w0 W g a n c _ zs (some ⟨wr.heap.size, 0, none⟩) 4 4 lst4 HDW.out (by omega) (by omega) HRW.out (fun b e => by cases e; show g < wr.heap.size; omega)).mono ?_
      rintro e w2 ⟨⟨y, hy, rfl⟩, hd2, hi2⟩
      have HY : Hid (y.size ≤ 255) := lst4_size y hy
      have how2 : w2.ownsRow w.heap.size 9 1 (.slice ak K.length ck) K.length (K.map Value.string) := own_same HOW.out fun x e => hi2.block x (HOW.out.lt x e).2 (.inr (by have := (HOW.out.lt x e).1; omega))
      have HD2 : Hid (Drw w0 w2 g a n c (T + 1 + K.length + 1) zs) := hd2
      have HI2 : Hid (Inn g (g + 1) w w2) := HIW.out.trans hi2
      have sw2 : w.heap.size ≤ w2.heap.size := HI2.out.size
      clear hd2 hi2 HOW HIW HDW HRW hW hy
      go_wp2_with (at_builtin; refine app_any _ rfl (.tmp 12) (.tmp 16) 23 rfl w.heap.size 9 i3 (.string ⟨#[]⟩) 1 16 Try.underlying23 hi3 hz30 hz31 hz32 rfl (by omega) (.slice ak K.length ck) K.length (K.map Value.string) rfl (how2.alloc _) (some ⟨w2.heap.size, 0, none⟩) 1 1 [.string y] rfl (fun h => by cases h) rfl (fun ad e => by cases e; exact cell_num1 _ _ _) (by intro u hu; simp at hu; subst hu; rfl) (by unfold maxLen; omega) (by omega) (by simp; omega) ?_; intro a' c' w5 ho hg hkk)
      have hbi : Inn g (g + 1) w w5 := ((HI2.out.trans (Inn.of_below ((Below.refl _ _).alloc (Nat.le_refl _) _))).trans_grown hg (fun x e => (how2.lt x e).1))
      have hd5 : Drw w0 w5 g a n c (T + 1 + K.length + 1) zs := (HD2.out.below ((Below.refl _ _).alloc (Nat.le_refl _) _)).grown hg (fun x e => by have := (how2.lt x e).1; omega)
      have ho5 : w5.ownsRow w.heap.size 9 1 (.slice a' (K ++ [y]).length c') (K ++ [y]).length ((K ++ [y]).map Value.string) := by
        rw [List.map_append, List.length_append]; exact ho
      have HL : Hid ((K ++ [y]).length = K.length + 1) := by unfold Hid; simp
      clear ho hg hkk
      go_roundw
      case rel => exact ⟨k - 1, K ++ [y], a', c', by omega, by go_num, by rw [HL.out]; omega, by rw [HL.out], (fun s hs => (List.mem_append.1 hs).elim (HK.out s) (fun h => by simp at h; subst h; exact HY.out)), ho5, by rw [HL.out]; exact hd5, hbi⟩
      case measure => simp [intOf]; omega
    · have e : k = 0 := by omega
      subst e
      clear hd
      go_wp2
      go_ret
      exact ⟨⟨K, ak, ck, rfl, by omega, HK.out, hown⟩, hi⟩
set_option maxRecDepth 100000 in
set_option maxHeartbeats 2000000 in
theorem c_textsOf (a : Option Addr) (n c : Nat) (zs : List Int) (w : World) (hr : RdV w a n (zs.map (Value.int .u8))) (hz : ∀ z ∈ zs, 0 ≤ z ∧ z < 256) (hn : n ≤ 1048576) :
    Calls Try.prog 11 #[.slice a n c] w fun e w' => (∃ (K : List ByteArray) (a' : Option Addr) (c' : Nat), e = .returned (.slice a' K.length c') ∧ K.length ≤ 5 ∧ (∀ s ∈ K, s.size ≤ 255) ∧ w'.ownsRow w.heap.size 9 1 (.slice a' K.length c') K.length (K.map Value.string)) ∧ Below w.heap.size w w' := by
  have HR : Hid (RdV w a n (zs.map (Value.int .u8))) := hr
  have HZ : Hid (∀ z ∈ zs, 0 ≤ z ∧ z < 256) := hz
  clear hr hz
  go_enter Try.func11, Try.ntmps11
  go_wp2_with fail
  refine (c_source a n c zs w HR.out HZ.out hn).mono ?_
  rintro e w1 ⟨rfl, hd, hb1⟩
  have HD1 : Hid (Drw w w1 w.heap.size a n c 0 zs) := hd
  have B1 : Hid (Below w.heap.size w w1) := hb1
  have s1 : w.heap.size ≤ w1.heap.size := hb1.size
  clear hd hb1
  go_wp2_with fail
  refine (c_texts w w1 w.heap.size a n c 0 zs HD1.out (by omega)).mono ?_
  rintro e w2 ⟨⟨K, a', c', rfl, hK, hs, o⟩, hi⟩
  have B2 : Hid (Below w.heap.size w w2) := B1.out.trans (hi.below (by omega) (by omega))
  have O : Hid (w2.ownsRow w.heap.size 9 1 (.slice a' K.length c') K.length (K.map Value.string)) := o.down s1
  have HS : Hid (∀ s ∈ K, s.size ≤ 255) := hs
  clear o hi hs
  go_wp2
  go_ret
  exact ⟨⟨K, a', c', rfl, hK, HS.out, O.out⟩, B2.out⟩
set_option maxRecDepth 100000 in
set_option maxHeartbeats 1000000 in
theorem c_same (a a' : Option Addr) (n cap n' cap' : Nat) (zs zs' : List (ByteArray)) (w : World) (hr : RdV w a n (zs.map Value.string)) (hr' : RdV w a' n' (zs'.map Value.string)) (hn : n ≤ 1048576) (hn' : n' ≤ 1048576) :
    Calls Try.prog 15 #[.slice a n cap, .slice a' n' cap'] w fun e w' => e = .returned (.bool (decide (zs = zs'))) ∧ ∃ q, w' = w.drewN q := by
  obtain ⟨hl, hcs⟩ := hr
  obtain ⟨hl', hcs'⟩ := hr'
  simp only [List.length_map] at hl hl'
  by_cases hnn : n = n'
  · subst hnn
    have hll : zs.length = zs'.length := by omega
    go_enter Try.func15, Try.ntmps15
    go_wp2
    go_loopw [5] (fun i wr => ∃ k : Nat, k ≤ n ∧ i = .int .i64 k ∧ Hid (sameToS zs zs' k) ∧ ∃ q, wr = w.drewN q) (fun i _ => n - (intOf i).toNat)
    case atStart => exact ⟨0, by omega, rfl, fun j h => absurd h (by omega), 0, rfl⟩
    case round =>
      obtain ⟨k, hk, rfl, HS, q, rfl⟩ := hrel
      by_cases hlt : k < n
      · obtain ⟨b, off, rfl, _, hc⟩ := hcs (by omega)
        obtain ⟨b', off', rfl, _, hc'⟩ := hcs' (by omega)
        obtain ⟨z, hz⟩ : ∃ z, z = zs.getD k (⟨#[]⟩) := ⟨_, rfl⟩
        obtain ⟨z', hz'⟩ : ∃ z, z = zs'.getD k (⟨#[]⟩) := ⟨_, rfl⟩
        have hck : w.cell? ⟨b, off + k, none⟩ = some (Value.string z) := by rw [hz, hc k hlt]; exact map_get _ _ _ _ (by omega)
        have hck' : w.cell? ⟨b', off' + k, none⟩ = some (Value.string z') := by rw [hz', hc' k hlt]; exact map_get _ _ _ _ (by omega)
        have g1 : (0 : Int) ≤ (k : Int) := by omega
        have g2 : (k : Int) < (n : Int) := by omega
        have HZ : Hid (z = zs.getD k (⟨#[]⟩)) := hz
        have HZ' : Hid (z' = zs'.getD k (⟨#[]⟩)) := hz'
        clear hc hc' hcs hcs' hz hz'
        by_cases he : z = z'
        · have HE : Hid (z = z') := he
          have he1 : (z.toList == z'.toList) = true := by simp [he]
          clear he
          go_wp2_with fail
          go_quiet (fail)
          go_wp2
          go_roundw
          case rel => exact ⟨k + 1, by omega, by go_num, fun j hj => if e : j = k then by rw [e, ← HZ.out, ← HZ'.out]; exact HE.out else HS.out j (by omega), _, rfl⟩
          case measure => simp [intOf]; omega
        · have HE : Hid (¬ z = z') := he
          have he1 : (z.toList == z'.toList) = false := by rw [beq_eq_false_iff_ne]; exact fun e => he (toList_inj e)
          clear he
          go_wp2_with fail
          go_quiet (fail)
          go_wp2
          go_ret
          exact ⟨ret_bool (decide_eq_false fun e => HE.out (by rw [HZ.out, HZ'.out, e])).symm, _, World.drewN_drewN _ _ _⟩
      · have e : k = n := by omega
        subst e
        go_wp2
        go_ret
        exact ⟨ret_bool (decide_eq_true (same_allS hll (by rw [hl]; exact HS.out))).symm, q, rfl⟩
  · have hne : ((n : Int) != (n' : Int)) = true := by simp; omega
    go_enter Try.func15, Try.ntmps15
    go_wp2
    go_ret
    exact ⟨ret_bool (decide_eq_false fun e => hnn (by rw [← hl, ← hl', e])).symm, 0, rfl⟩

end Go.Proofs.Ytaemdndkajomcaa
