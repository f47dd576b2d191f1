/-
  The draw of a list of numbers, exactly.
-/
import Derived.Test.YtefbaemcdfmhpaaDe
import Derived.Test.YtefbaemcdfmhpaaDn
namespace Go.Proofs.Ytefbaemcdfmhpaa
open Go Go.RowKit
attribute [local go_sem ↓] Go.wp_at_zero Go.wp_at_succ

def genK (zs : List Int) (n : Nat) : Nat → Int → Int → List Int
  | 0, _, _ => []
  | q + 1, i, z => (byteV zs n i z % 2) :: genK zs n q (i + 1) (byteS zs n i z)
theorem genK_len (zs : List Int) (n : Nat) : ∀ (q : Nat) (i z : Int), (genK zs n q i z).length = q
  | 0, _, _ => rfl
  | q + 1, i, z => by rw [genK, List.length_cons, genK_len zs n q]
def keepK (zs : List Int) (n : Nat) : List Int := genK zs n (byteV zs n 0 ((n : Int) % 1000) % 12).toNat 1 (byteS zs n 0 ((n : Int) % 1000))
theorem keepK_len {zs : List Int} {n : Nat} (hz : ∀ y ∈ zs, 0 ≤ y ∧ y < 256) : (keepK zs n).length ≤ 11 := by
  unfold keepK
  rw [genK_len]
  have := byteV_rng (n := n) (i := 0) (z := (n : Int) % 1000) hz
  omega
/-- A source at g, exactly. -/
structure Drx (w0 w : World) (g : Nat) (a : Option Addr) (n c : Nat) (i z : Int) (zs : List Int) : Prop where
  code : RdV w0 a n (zs.map (Value.int .u8))
  bytes : ∀ z ∈ zs, 0 ≤ z ∧ z < 256
  len : n ≤ maxLen
  behind : w0.heap.size ≤ g
  kept : Below w0.heap.size w0 w
  box : Box w g 83 #[.slice a n c, .int .i64 i, .int .i64 z]
  i0 : 0 ≤ i
  z0 : 0 ≤ z
  z1 : z < 2147483648
theorem Drx.below {w0 w w' : World} {g n c : Nat} {i z : Int} {a : Option Addr} {zs : List Int} (h : Drx w0 w g a n c i z zs) (hb : Below w.heap.size w w') : Drx w0 w' g a n c i z zs :=
  ⟨h.code, h.bytes, h.len, h.behind, h.kept.trans (hb.mono h.kept.size), h.box.belowS hb, h.i0, h.z0, h.z1⟩
theorem Drx.grown {w0 w w' : World} {g n c : Nat} {i z : Int} {a : Option Addr} {zs : List Int} {row : Option Nat} (h : Drx w0 w g a n c i z zs) (hg : w.grownBy w' row) (hr : ∀ x, row = some x → g < x) : Drx w0 w' g a n c i z zs :=
  ⟨h.code, h.bytes, h.len, h.behind, h.kept.grown hg h.kept.size (fun x e => by have := hr x e; have := h.behind; omega), h.box.grown hg (fun e => by have := hr g e; omega), h.i0, h.z0, h.z1⟩

set_option maxHeartbeats 1000000 in
theorem c_nextE (w0 w : World) (g : Nat) (a : Option Addr) (n c : Nat) (i z : Int) (zs : List Int) (m : Int) (h : Drx w0 w g a n c i z zs) (hi : i ≤ 1000000) (hm : 2 ≤ m ∧ m ≤ 256) :
    Calls Try.prog 73 #[.pointer (some ⟨g, 0, none⟩), .int .i64 m] w fun e w' => e = .returned (.int .i64 (byteV zs n i z % m)) ∧ Drx w0 w' g a n c (i + 1) (byteS zs n i z) zs ∧ Inn g (g + 1) w w' := by
  have HD : Hid (Drx w0 w g a n c i z zs) := h
  have hbv := byteV_rng (n := n) (i := i) (z := z) h.bytes
  clear h
  have h1 : ¬ m ≤ 1 := by omega
  have h2 : m ≤ 256 := hm.2
  go_enter Try.func73, Try.ntmps73
  go_wp2_with fail
  refine (c_byteE g a n c i z zs w HD.out.box HD.out.i0 hi HD.out.z0 HD.out.z1 (HD.out.code.below HD.out.kept) HD.out.bytes HD.out.len ?_).mono ?_
  · intro b off hn e
    obtain ⟨b', off', e', hlt, _⟩ := HD.out.code.2 hn
    rw [e] at e'
    cases e'
    have := HD.out.behind
    omega
  · rintro e w' ⟨rfl, hbx, hin⟩
    have HDx : Hid (Drx w0 w' g a n c (i + 1) (byteS zs n i z) zs) := ⟨HD.out.code, HD.out.bytes, HD.out.len, HD.out.behind, HD.out.kept.trans (hin.below HD.out.behind HD.out.kept.size), hbx, by have := HD.out.i0; omega, (byteS_rng HD.out.z0 HD.out.z1).1, (byteS_rng HD.out.z0 HD.out.z1).2⟩
    have HI : Hid (Inn g (g + 1) w w') := hin
    obtain ⟨r, hr⟩ : ∃ r, r = byteV zs n i z := ⟨_, rfl⟩
    rw [← hr] at hbv ⊢
    have HR : Hid (r = byteV zs n i z) := hr
    have r0 : 0 ≤ r := hbv.1
    have hmz : (m == 0) = false := by simp; omega
    have hmz2 : ¬ m = 0 := by omega
    have hq : r.tmod m = r % m := Int.tmod_eq_emod_of_nonneg r0
    have hq2 : 0 ≤ r % m ∧ r % m < m := ⟨Int.emod_nonneg _ (by omega), Int.emod_lt_of_pos _ (by omega)⟩
    have hw : IntKind.i64.wrap (r % m) = r % m := by simp [IntKind.wrap_i64]; omega
    clear hbx hin hr
    go_wp2
    go_ret
    exact ⟨by rw [HR.out]; rfl, HDx.out, HI.out⟩

set_option maxHeartbeats 2000000 in
theorem c_keepsE (w0 w : World) (g : Nat) (a : Option Addr) (n c : Nat) (z : Int) (zs : List Int) (h : Drx w0 w g a n c 0 z zs) (K0 : List Int) (hK0 : K0 = genK zs n (byteV zs n 0 z % 12).toNat 1 (byteS zs n 0 z)) :
    Calls Try.prog 52 #[.pointer (some ⟨g, 0, none⟩)] w fun e w' => (∃ (a' : Option Addr) (c' : Nat), e = .returned (.slice a' K0.length c') ∧ w'.ownsRow w.heap.size 3 1 (.slice a' K0.length c') K0.length (K0.map (Value.int .i64))) ∧ Inn g (g + 1) w w' := by
  obtain ⟨i3, hi3, hz30, hz31, hz32⟩ := info_parts infoI
  have hgl : g < w.heap.size := h.box.lt
  have hbv := byteV_rng (n := n) (i := 0) (z := z) h.bytes
  have HD : Hid (Drx w0 (w.alloc (.cells #[] 3)) g a n c 0 z zs) := h.below ((Below.refl _ _).alloc (Nat.le_refl _) _)
  have HO : Hid ((w.alloc (.cells #[] 3)).ownsRow w.heap.size 3 1 (.slice (some ⟨w.heap.size, 0, none⟩) 0 0) 0 []) := World.ownsRow_lit w #[] 0 (Nat.le_refl _) (Nat.zero_le _) rfl
  have HI0 : Hid (Inn g (g + 1) w (w.alloc (.cells #[] 3))) := Inn.of_below ((Below.refl _ _).alloc (Nat.le_refl _) _)
  have HK0 : Hid (K0 = genK zs n (byteV zs n 0 z % 12).toNat 1 (byteS zs n 0 z)) := hK0
  clear h hK0
  go_enter Try.func52, Try.ntmps52
  go_wp2_with fail
  refine (c_nextE w0 _ g a n c 0 z zs 12 HD.out (by omega) (by omega)).mono ?_
  rintro e w1 ⟨rfl, hd, hi⟩
  obtain ⟨q, hq⟩ : ∃ q : Nat, byteV zs n 0 z % 12 = (q : Int) := ⟨(byteV zs n 0 z % 12).toNat, by omega⟩
  rw [hq]
  have hq11 : q ≤ 11 := by omega
  obtain ⟨z1, hz1⟩ : ∃ z1, z1 = byteS zs n 0 z := ⟨_, rfl⟩
  have HD1 : Hid (Drx w0 w1 g a n c 1 z1 zs) := by have := hd; rw [← hz1] at this; exact this
  have HKq : Hid (K0 = genK zs n q 1 z1) := by have := HK0.out; rw [hq, ← hz1] at this; unfold Hid; simpa using this
  have HI1 : Hid (Inn g (g + 1) w w1) := HI0.out.trans hi
  have HO1 : Hid (w1.ownsRow w.heap.size 3 1 (.slice (some ⟨w.heap.size, 0, none⟩) 0 0) 0 []) := own_same HO.out fun x e => hi.block x (HO.out.lt x e).2 (.inr (by have e' : w.heap.size = x := Option.some.inj e; omega))
  clear hd hi HD HO HI0 hq hz1 hbv HK0
  go_wp2
  go_loopw [3, 4] (fun x i wr => ∃ (k : Nat) (K : List Int) (ak : Option Addr) (ck : Nat) (iz zz : Int), k ≤ q ∧ i = .int .i64 k ∧ K.length + k = q ∧ x = .slice ak K.length ck ∧ wr.ownsRow w.heap.size 3 1 (.slice ak K.length ck) K.length (K.map (Value.int .i64)) ∧ Drx w0 wr g a n c iz zz zs ∧ iz = 1 + (K.length : Int) ∧ Hid (K ++ genK zs n k iz zz = K0) ∧ Inn g (g + 1) w wr) (fun _ i _ => (intOf i).toNat)
  case atStart => exact ⟨q, [], _, 0, 1, z1, Nat.le_refl _, rfl, by simp, rfl, HO1.out, HD1.out, rfl, HKq.out.symm, HI1.out⟩
  case round =>
    obtain ⟨k, K, ak, ck, iz, zz, hk, rfl, hKl, rfl, hown, hd, hiz, HG, hi⟩ := hrel
    by_cases hpos : 0 < k
    · have HOW : Hid (wr.ownsRow w.heap.size 3 1 (.slice ak K.length ck) K.length (K.map (Value.int .i64))) := hown
      have HIW : Hid (Inn g (g + 1) w wr) := hi
      have swr : w.heap.size ≤ wr.heap.size := hi.size
      have HGS : Hid (K ++ [byteV zs n iz zz % 2] ++ genK zs n (k - 1) (iz + 1) (byteS zs n iz zz) = K0) := by
        have := HG.out
        obtain ⟨k', rfl⟩ : ∃ k', k = k' + 1 := ⟨k - 1, by omega⟩
        rw [genK] at this
        unfold Hid
        simpa using this
      go_wp2_with fail
      refine (c_nextE w0 wr g a n c iz zz zs 2 hd (by omega) (by omega)).mono ?_
      rintro e w2 ⟨rfl, hd2, hi2⟩
      have how2 : w2.ownsRow w.heap.size 3 1 (.slice ak K.length ck) K.length (K.map (Value.int .i64)) := own_same HOW.out fun x e => hi2.block x (HOW.out.lt x e).2 (.inr (by have := (HOW.out.lt x e).1; omega))
      obtain ⟨y, hy⟩ : ∃ y, y = byteV zs n iz zz % 2 := ⟨_, rfl⟩
      rw [← hy] at HGS ⊢
      have HD2 : Hid (Drx w0 w2 g a n c (iz + 1) (byteS zs n iz zz) zs) := hd2
      have HI2 : Hid (Inn g (g + 1) w w2) := HIW.out.trans hi2
      have sw2 : w.heap.size ≤ w2.heap.size := HI2.out.size
      have HIZ : Hid (iz = 1 + (K.length : Int)) := hiz
      clear hown hd hi hd2 hi2 HOW HIW hy hiz HG
      go_wp2_with (at_builtin; refine app_any _ rfl (.tmp 12) (.tmp 15) 25 rfl w.heap.size 3 i3 (.int .i64 0) 1 8 Try.underlying25 hi3 hz30 hz31 hz32 rfl (by omega) (.slice ak K.length ck) K.length (K.map (Value.int .i64)) rfl (how2.alloc _) (some ⟨w2.heap.size, 0, none⟩) 1 1 [.int .i64 y] rfl (fun h => by cases h) rfl (fun ad e => by cases e; exact cell_num1 _ _ _) (by intro u hu; simp at hu; subst hu; rfl) (by unfold maxLen; omega) (by omega) (by simp; omega) ?_; intro a' c' w5 ho hg hkk)
      have hbi : Inn g (g + 1) w w5 := ((HI2.out.trans (Inn.of_below ((Below.refl _ _).alloc (Nat.le_refl _) _))).trans_grown hg (fun x e => (how2.lt x e).1))
      have hd5 : Drx w0 w5 g a n c (iz + 1) (byteS zs n iz zz) zs := (HD2.out.below ((Below.refl _ _).alloc (Nat.le_refl _) _)).grown hg (fun x e => by have := (how2.lt x e).1; omega)
      have ho5 : w5.ownsRow w.heap.size 3 1 (.slice a' (K ++ [y]).length c') (K ++ [y]).length ((K ++ [y]).map (Value.int .i64)) := by
        rw [List.map_append, List.length_append]; exact ho
      have HL : Hid ((K ++ [y]).length = K.length + 1) := by unfold Hid; simp
      clear ho hg hkk
      go_roundw
      case rel => exact ⟨k - 1, K ++ [y], a', c', iz + 1, byteS zs n iz zz, by omega, by go_num, by rw [HL.out]; omega, by rw [HL.out], ho5, hd5, by rw [HL.out, HIZ.out]; omega, HGS.out, hbi⟩
      case measure => simp [intOf]; omega
    · have e : k = 0 := by omega
      subst e
      have hKK : K = K0 := by have := HG.out; rw [genK] at this; simpa using this
      subst hKK
      clear hd HG
      go_wp2
      go_ret
      exact ⟨⟨ak, ck, rfl, hown⟩, hi⟩

set_option maxHeartbeats 2000000 in
theorem c_keepsOfE (a : Option Addr) (n c : Nat) (zs : List Int) (w : World) (hr : RdV w a n (zs.map (Value.int .u8))) (hz : ∀ z ∈ zs, 0 ≤ z ∧ z < 256) (hn : n ≤ 1048576) :
    Calls Try.prog 20 #[.slice a n c] w fun e w' => (∃ (a' : Option Addr) (c' : Nat), e = .returned (.slice a' (keepK zs n).length c') ∧ w'.ownsRow w.heap.size 3 1 (.slice a' (keepK zs n).length c') (keepK zs n).length ((keepK zs n).map (Value.int .i64))) ∧ Below w.heap.size w w' := by
  have HR : Hid (RdV w a n (zs.map (Value.int .u8))) := hr
  have HZ : Hid (∀ z ∈ zs, 0 ≤ z ∧ z < 256) := hz
  have hm : (n : Int).tmod 1000 = (n : Int) % 1000 := Int.tmod_eq_emod_of_nonneg (by omega)
  have hw : IntKind.i64.wrap ((n : Int) % 1000) = (n : Int) % 1000 := by simp [IntKind.wrap_i64]; omega
  have CS : Hid (Calls Try.prog 42 #[.slice a n c] w fun e w' => e = .returned (.pointer (some ⟨w.heap.size, 0, none⟩)) ∧ Drx w w' w.heap.size a n c 0 ((n : Int) % 1000) zs ∧ Below w.heap.size w w') := by
    unfold Hid
    go_enter Try.func42, Try.ntmps42
    go_wp2
    go_ret
    have hb : Below w.heap.size w (w.alloc (.cells #[.slice a n c, .int .i64 0, .int .i64 ((n : Int) % 1000)] 83)) := (Below.refl _ _).alloc (Nat.le_refl _) _
    exact ⟨rfl, ⟨HR.out, HZ.out, by unfold maxLen; omega, Nat.le_refl _, hb, Box.new _ _ _, by omega, by omega, by omega⟩, hb⟩
  clear hr hz hm hw
  go_enter Try.func20, Try.ntmps20
  go_wp2_with fail
  refine CS.out.mono ?_
  rintro e w1 ⟨rfl, hd, hb1⟩
  have HD1 : Hid (Drx w w1 w.heap.size a n c 0 ((n : Int) % 1000) zs) := hd
  have B1 : Hid (Below w.heap.size w w1) := hb1
  have s1 : w.heap.size ≤ w1.heap.size := hb1.size
  clear hd hb1
  go_wp2_with fail
  refine (c_keepsE w w1 w.heap.size a n c _ zs HD1.out (keepK zs n) rfl).mono ?_
  rintro e w2 ⟨⟨a', c', rfl, o⟩, hi⟩
  have B2 : Hid (Below w.heap.size w w2) := B1.out.trans (hi.below (by omega) (by omega))
  have O : Hid (w2.ownsRow w.heap.size 3 1 (.slice a' (keepK zs n).length c') (keepK zs n).length ((keepK zs n).map (Value.int .i64))) := o.down s1
  clear o hi
  go_wp2
  go_ret
  exact ⟨⟨a', c', rfl, O.out⟩, B2.out⟩
end Go.Proofs.Ytefbaemcdfmhpaa
