/-
  Lists of values that are drawn; lists that are the same.
-/
import Derived.Test.YtkfkhfagehcmiaaDoorFka
import Derived.Test.YtkfkhfagehcmiaaDoorKj
import Derived.Deep.QuietTactic
import Derived.BigQuiet
namespace Go.Proofs.YtkfkhfagehcmiaaDoor
open Go Go.RowKit
attribute [local go_sem ↓] Go.wp_at_zero Go.wp_at_succ

set_option maxRecDepth 100000 in
set_option maxHeartbeats 4000000 in
theorem c_values (w0 w : World) (g : Nat) (a : Option Addr) (n c T : Nat) (zs : List Int) (h : Drw w0 w g a n c T zs) (hT : T ≤ 800000) :
    Calls Tryd.prog 21 #[.pointer (some ⟨g, 0, none⟩)] w fun e w' => (∃ (K : List VV) (a' : Option Addr) (c' : Nat), e = .returned (.slice a' K.length c') ∧ K.length ≤ 4 ∧ (∀ v ∈ K, okV v = true) ∧ w'.ownsRow w.heap.size 27 3 (.slice a' K.length c') K.length (cellsV K)) ∧ Inn g (g + 1) w w' := by
  obtain ⟨i0, hi0, hz0, hz1, hz2⟩ := info_parts info40
  have hgl : g < w.heap.size := h.src.lt
  have lb : w0.heap.size ≤ g := h.behind
  obtain ⟨V, hV⟩ : ∃ Q, w.alloc (.cells #[] 27) = Q := ⟨_, rfl⟩
  have bV : Below w.heap.size w V := by rw [← hV]; exact (Below.refl _ _).alloc (Nat.le_refl _) _
  have HD : Hid (Drw w0 V g a n c T zs) := h.below bV
  have HO : Hid (V.ownsRow w.heap.size 27 3 (.slice (some ⟨w.heap.size, 0, none⟩) 0 0) 0 (cellsV [])) := by unfold Hid; rw [← hV]; exact World.ownsRow_lit w #[] 0 (Nat.le_refl _) (Nat.zero_le _) rfl
  have HI0 : Hid (Inn g (g + 1) w V) := Inn.ofB bV
  clear h bV
  go_enter Tryd.func21, Tryd.ntmps21
  go_wp2_with fail
  refine (c_next w0 V g a n c T zs 5 HD.out (by omega) (by omega)).mono ?_
  rintro e w1 ⟨⟨r, rfl, r0, r1⟩, hd, hi⟩
  obtain ⟨q, rfl⟩ : ∃ q : Nat, r = (q : Int) := ⟨r.toNat, by omega⟩
  have hq : q ≤ 4 := by omega
  have HD1 : Hid (Drw w0 w1 g a n c (T + 4) zs) := hd.mono (by omega)
  have HI1 : Hid (Inn g (g + 1) w w1) := HI0.out.trans hi
  have HO1 : Hid (w1.ownsRow w.heap.size 27 3 (.slice (some ⟨w.heap.size, 0, none⟩) 0 0) 0 (cellsV [])) := own_same HO.out fun x e => hi.block x (HO.out.lt x e).2 (.inr (by have e' : w.heap.size = x := Option.some.inj e; omega))
  clear hd hi HD HO HI0 hV
  go_wp2
  go_loopw [3, 4] (fun x i wr => ∃ (k : Nat) (K : List VV) (ak : Option Addr) (ck : Nat), k ≤ q ∧ i = .int .i64 k ∧ K.length + k = q ∧ x = .slice ak K.length ck ∧ Hid (∀ v ∈ K, okV v = true) ∧ Hid (wr.ownsRow w.heap.size 27 3 (.slice ak K.length ck) K.length (cellsV K)) ∧ Hid (Drw w0 wr g a n c (T + 4 * (K.length + 1)) zs) ∧ Hid (Inn g (g + 1) w wr)) (fun _ i _ => (intOf i).toNat)
  case atStart => exact ⟨q, [], _, 0, Nat.le_refl _, rfl, by simp, rfl, (fun _ h => by cases h), HO1, HD1, HI1⟩
  case round =>
    clear HO1 HD1 HI1
    obtain ⟨k, K, ak, ck, hk, rfl, hKl, rfl, HK, HOW, HDW, HIW⟩ := hrel
    by_cases hpos : 0 < k
    · have swr : w.heap.size ≤ wr.heap.size := HIW.out.size
      have cp : (0 : Int) < (k : Int) := by omega
      go_wp2_with fail
      refine (c_value w0 wr g a n c _ zs HDW.out (by omega)).mono ?_
      rintro e w2 ⟨⟨u, rfl, hu⟩, hd2, hi2⟩
      have HU : Hid (okV u = true) := hu
      have how2 : w2.ownsRow w.heap.size 27 3 (.slice ak K.length ck) K.length (cellsV K) := own_same HOW.out fun x e => hi2.block x (HOW.out.lt x e).2 (.inr (by have := (HOW.out.lt x e).1; omega))
      have HD2 : Hid (Drw w0 w2 g a n c (T + 4 * (K.length + 1) + 4) zs) := hd2
      have HI2 : Hid (Inn g (g + 1) w w2) := HIW.out.trans hi2
      have sw2 : w.heap.size ≤ w2.heap.size := HI2.out.size
      clear hd2 hi2 HOW HIW HDW hu
      go_wp2_with (at_builtin; refine app_any _ rfl (.tmp 12) (.tmp 15) 31 rfl w.heap.size 27 i0 (.agg #[.int .i64 0, .int .i64 0, .string ⟨#[]⟩]) 3 32 Tryd.underlying31 hi0 hz0 hz1 hz2 rfl (by omega) (.slice ak K.length ck) K.length (cellsV K) rfl (how2.alloc _) (some ⟨w2.heap.size, 0, none⟩) 1 1 [.int .i64 u.1, .int .i64 u.2.1, .string u.2.2] rfl (fun h => by cases h) rfl (fun ad e => by cases e; exact cells3 _ _ _ _ _) (by intro z hz; simp at hz; rcases hz with rfl | rfl | rfl <;> rfl) (by unfold maxLen; omega) (by omega) (by simp; omega) ?_; intro a5 c5 w5 ho hg hkk)
      have HL : Hid ((K ++ [u]).length = K.length + 1) := by unfold Hid; simp
      have hbi : Inn g (g + 1) w w5 := ((HI2.out.trans (Inn.ofB ((Below.refl _ _).alloc (Nat.le_refl _) _))).trans_grown hg (fun x e => (how2.lt x e).1))
      have hd5 : Drw w0 w5 g a n c (T + 4 * (K.length + 1) + 4) zs := (HD2.out.below ((Below.refl _ _).alloc (Nat.le_refl _) _)).grown hg (fun x e => by have := (how2.lt x e).1; omega)
      have ho5 : w5.ownsRow w.heap.size 27 3 (.slice a5 (K.length + 1) c5) (K ++ [u]).length (cellsV (K ++ [u])) := by
        rw [cellsV_append, HL.out]; exact ho
      have HO5 : Hid (w5.ownsRow w.heap.size 27 3 (.slice a5 (K ++ [u]).length c5) (K ++ [u]).length (cellsV (K ++ [u]))) := by unfold Hid; rw [HL.out]; rw [HL.out] at ho5; exact ho5
      have HK5 : Hid (∀ v ∈ K ++ [u], okV v = true) := fun v hv => (List.mem_append.1 hv).elim (HK.out v) (fun h => by rw [List.mem_singleton.1 h]; exact HU.out)
      have HD5 : Hid (Drw w0 w5 g a n c (T + 4 * ((K ++ [u]).length + 1)) zs) := hd5.mono (by rw [HL.out]; omega)
      clear ho hg hkk hd5 ho5
      go_wp2
      go_roundw
      case rel => exact ⟨k - 1, K ++ [u], a5, c5, by omega, by go_num, by rw [HL.out]; omega, by rw [HL.out], HK5, HO5, HD5, hbi⟩
      case measure => simp [intOf]; omega
    · have e : k = 0 := by omega
      subst e
      clear HDW
      go_wp2
      go_ret
      exact ⟨⟨K, ak, ck, rfl, by omega, HK.out, HOW.out⟩, HIW.out⟩
set_option maxRecDepth 100000 in
set_option maxHeartbeats 4000000 in
theorem c_valuesOf (a : Option Addr) (n c : Nat) (zs : List Int) (w : World) (hr : RdV w a n (zs.map (Value.int .u8))) (hz : ∀ z ∈ zs, 0 ≤ z ∧ z < 256) (hn : n ≤ 1048576) :
    Calls Tryd.prog 9 #[.slice a n c] w fun e w' => (∃ (K : List VV) (a' : Option Addr) (c' : Nat), e = .returned (.slice a' K.length c') ∧ K.length ≤ 4 ∧ (∀ v ∈ K, okV v = true) ∧ w'.ownsRow w.heap.size 27 3 (.slice a' K.length c') K.length (cellsV K)) ∧ Below w.heap.size w w' := by
  have HR : Hid (RdV w a n (zs.map (Value.int .u8))) := hr
  have HZ : Hid (∀ z ∈ zs, 0 ≤ z ∧ z < 256) := hz
  clear hr hz
  go_enter Tryd.func9, Tryd.ntmps9
  go_wp2_with fail
  refine (c_source a n c zs w HR.out HZ.out hn).mono ?_
  rintro e w1 ⟨rfl, hd, hb1⟩
  have HD1 : Hid (Drw w w1 w.heap.size a n c 0 zs) := hd
  have B1 : Hid (Below w.heap.size w w1) := hb1
  have s1 : w.heap.size ≤ w1.heap.size := hb1.size
  clear hd hb1
  go_wp2_with fail
  refine (c_values w w1 w.heap.size a n c 0 zs HD1.out (by omega)).mono ?_
  rintro e w2 ⟨⟨K, a', c', rfl, hK, hs, o⟩, hi⟩
  have B2 : Hid (Below w.heap.size w w2) := B1.out.trans (hi.below (by omega) (by omega))
  have O : Hid (w2.ownsRow w.heap.size 27 3 (.slice a' K.length c') K.length (cellsV K)) := o.down s1
  have HS : Hid (∀ v ∈ K, okV v = true) := hs
  clear o hi hs
  go_wp2
  go_ret
  exact ⟨⟨K, a', c', rfl, hK, HS.out, O.out⟩, B2.out⟩
set_option maxRecDepth 100000 in
set_option maxHeartbeats 4000000 in
theorem c_valueOf (a : Option Addr) (n c : Nat) (zs : List Int) (w : World) (hr : RdV w a n (zs.map (Value.int .u8))) (hz : ∀ z ∈ zs, 0 ≤ z ∧ z < 256) (hn : n ≤ 1048576) :
    Calls Tryd.prog 14 #[.slice a n c] w fun e w' => (∃ u : VV, e = .returned (.agg #[.int .i64 u.1, .int .i64 u.2.1, .string u.2.2]) ∧ okV u = true) ∧ Below w.heap.size w w' := by
  have HZ : Hid (∀ z ∈ zs, 0 ≤ z ∧ z < 256) := hz
  obtain ⟨V, hV⟩ : ∃ Q, w.alloc (.cells #[.int .i64 0, .int .i64 0, .string ⟨#[]⟩] 27) = Q := ⟨_, rfl⟩
  have bV : Below w.heap.size w V := by rw [← hV]; exact (Below.refl _ _).alloc (Nat.le_refl _) _
  have XV : Hid (Box V w.heap.size 27 #[.int .i64 0, .int .i64 0, .string ⟨#[]⟩]) := by unfold Hid; rw [← hV]; exact Box.new _ _ _
  have lV : w.heap.size < V.heap.size := XV.out.lt
  have BV : Hid (Below w.heap.size w V) := bV
  have HR : Hid (RdV V a n (zs.map (Value.int .u8))) := hr.below bV
  clear hr hz bV
  go_enter Tryd.func14, Tryd.ntmps14
  go_wp2_with fail
  refine (c_source a n c zs V HR.out HZ.out hn).mono ?_
  rintro e w1 ⟨rfl, hd, hb1⟩
  have HD1 : Hid (Drw V w1 V.heap.size a n c 0 zs) := hd
  have B1 : Hid (Below w.heap.size w w1) := BV.out.trans (hb1.mono BV.out.size)
  have X1 : Hid (Box w1 w.heap.size 27 #[.int .i64 0, .int .i64 0, .string ⟨#[]⟩]) := XV.out.belowS hb1
  have s1 : V.heap.size ≤ w1.heap.size := hb1.size
  clear hd hb1 BV XV HR hV
  go_wp2_with fail
  refine (c_value V w1 V.heap.size a n c 0 zs HD1.out (by omega)).mono ?_
  rintro e w2 ⟨⟨u, rfl, hu⟩, _, hi⟩
  have B2 : Hid (Below w.heap.size w w2) := B1.out.trans (hi.below (by omega) (by omega))
  have X2 : Hid (Box w2 w.heap.size 27 #[.int .i64 0, .int .i64 0, .string ⟨#[]⟩]) := X1.out.innO hi (.inl lV)
  have HU : Hid (okV u = true) := hu
  clear hi hu X1 B1 HD1
  obtain ⟨s0, s1', s2⟩ := thaw3 X2.out
  have y0 : w2.cell? ⟨w.heap.size, 0, none⟩ = some (.int .i64 0) := X2.out.cell 0
  have y1 : w2.cell? ⟨w.heap.size, 1, none⟩ = some (.int .i64 0) := X2.out.cell 1
  have y2 : w2.cell? ⟨w.heap.size, 2, none⟩ = some (.string ⟨#[]⟩) := X2.out.cell 2
  obtain ⟨N, hN⟩ : ∃ Q, put3v w2 w.heap.size (.int .i64 u.1) (.int .i64 u.2.1) (.string u.2.2) = Q := ⟨_, rfl⟩
  have XN : Hid (Box N w.heap.size 27 #[.int .i64 u.1, .int .i64 u.2.1, .string u.2.2]) := by unfold Hid; rw [← hN]; exact put3v_box X2.out _ _ _
  have BN : Hid (Below w.heap.size w N) := B2.out.trans ((show Inn w.heap.size (w.heap.size + 1) w2 N by rw [← hN]; exact put3v_inn _ _ _ _ _).below (Nat.le_refl _) B2.out.size)
  unfold put3v at hN
  go_wp2
  exact retV Tryd.results14 rfl rfl XN.out ⟨⟨u, rfl, HU.out⟩, BN.out⟩

end Go.Proofs.YtkfkhfagehcmiaaDoor
