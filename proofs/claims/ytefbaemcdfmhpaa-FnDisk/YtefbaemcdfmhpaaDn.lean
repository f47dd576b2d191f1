/-
  The draws: numbers, chances, texts, lists of numbers.
-/
import Derived.Test.YtefbaemcdfmhpaaDr
namespace Go.Proofs.Ytefbaemcdfmhpaa
open Go Go.RowKit
attribute [local go_sem ↓] Go.wp_at_zero Go.wp_at_succ

/-- A source at g over the code that lies in w0. -/
structure Drw (w0 w : World) (g : Nat) (a : Option Addr) (n c T : Nat) (zs : List Int) : Prop where
  code : RdV w0 a n (zs.map (Value.int .u8))
  bytes : ∀ z ∈ zs, 0 ≤ z ∧ z < 256
  len : n ≤ maxLen
  behind : w0.heap.size ≤ g
  kept : Below w0.heap.size w0 w
  src : Src w g a n c T
theorem Drw.inn {w0 w w' : World} {g n c T B E : Nat} {a : Option Addr} {zs : List Int} (h : Drw w0 w g a n c T zs) (hb : Inn B E w w') (hg : g < B ∨ E ≤ g) (h0 : w0.heap.size ≤ B) : Drw w0 w' g a n c T zs :=
  ⟨h.code, h.bytes, h.len, h.behind, h.kept.trans (hb.below h0 h.kept.size), h.src.inn hb hg⟩
theorem Drw.below {w0 w w' : World} {g n c T : Nat} {a : Option Addr} {zs : List Int} (h : Drw w0 w g a n c T zs) (hb : Below w.heap.size w w') : Drw w0 w' g a n c T zs :=
  ⟨h.code, h.bytes, h.len, h.behind, h.kept.trans (hb.mono h.kept.size), h.src.below hb⟩
theorem Drw.mono {w0 w : World} {g n c T T' : Nat} {a : Option Addr} {zs : List Int} (h : Drw w0 w g a n c T zs) (ht : T ≤ T') : Drw w0 w g a n c T' zs :=
  ⟨h.code, h.bytes, h.len, h.behind, h.kept, h.src.mono ht⟩
theorem c_byteD (w0 w : World) (g : Nat) (a : Option Addr) (n c T : Nat) (zs : List Int) (h : Drw w0 w g a n c T zs) (hT : T ≤ 1000000) :
    Calls Try.prog 84 #[.pointer (some ⟨g, 0, none⟩)] w fun e w' => (∃ r : Int, e = .returned (.int .i64 r) ∧ 0 ≤ r ∧ r < 256) ∧ Drw w0 w' g a n c (T + 1) zs ∧ Inn g (g + 1) w w' := by
  refine (c_byte g a n c T zs w h.src (h.code.below h.kept) h.bytes h.len hT ?_).mono ?_
  · intro b off hn e
    obtain ⟨b', off', e', hlt, _⟩ := h.code.2 hn
    rw [e] at e'
    cases e'
    have := h.behind
    omega
  · rintro e w' ⟨hr, hs, hi⟩
    exact ⟨hr, ⟨h.code, h.bytes, h.len, h.behind, h.kept.trans (hi.below h.behind h.kept.size), hs⟩, hi⟩

set_option maxHeartbeats 1000000 in
theorem c_next (w0 w : World) (g : Nat) (a : Option Addr) (n c T : Nat) (zs : List Int) (m : Int) (h : Drw w0 w g a n c T zs) (hT : T ≤ 1000000) (hm : 1 ≤ m ∧ m ≤ 256) :
    Calls Try.prog 73 #[.pointer (some ⟨g, 0, none⟩), .int .i64 m] w fun e w' => (∃ r : Int, e = .returned (.int .i64 r) ∧ 0 ≤ r ∧ r < m) ∧ Drw w0 w' g a n c (T + 1) zs ∧ Inn g (g + 1) w w' := by
  have HD : Hid (Drw w0 w g a n c T zs) := h
  clear h
  by_cases h1 : m ≤ 1
  · go_enter Try.func73, Try.ntmps73
    go_wp2
    go_ret
    exact ⟨⟨0, rfl, by omega, by omega⟩, HD.out.mono (Nat.le_succ _), Inn.refl _ _ _⟩
  · have h2 : m ≤ 256 := hm.2
    go_enter Try.func73, Try.ntmps73
    go_wp2_with fail
    refine (c_byteD w0 w g a n c T zs HD.out hT).mono ?_
    rintro e w' ⟨⟨r, rfl, r0, r1⟩, hd, hi⟩
    have hmz : (m == 0) = false := by simp; omega
    have hmz2 : ¬ m = 0 := by omega
    have hq : r.tmod m = r % m := Int.tmod_eq_emod_of_nonneg r0
    have hq2 : 0 ≤ r % m ∧ r % m < m := ⟨Int.emod_nonneg _ (by omega), Int.emod_lt_of_pos _ (by omega)⟩
    have HD2 : Hid (Drw w0 w' g a n c (T + 1) zs) := hd
    have HI : Hid (Inn g (g + 1) w w') := hi
    have hw : IntKind.i64.wrap (r % m) = r % m := by simp [IntKind.wrap_i64]; omega
    clear hd hi
    go_wp2
    go_ret
    exact ⟨⟨_, rfl, by first | exact hq2.1 | (rw [hq]; exact hq2.1), by first | exact hq2.2 | (rw [hq]; exact hq2.2)⟩, HD2.out, HI.out⟩

set_option maxHeartbeats 1000000 in
theorem c_chance (w0 w : World) (g : Nat) (a : Option Addr) (n c T : Nat) (zs : List Int) (m : Int) (h : Drw w0 w g a n c T zs) (hT : T ≤ 1000000) (hm : 1 ≤ m ∧ m ≤ 256) :
    Calls Try.prog 74 #[.pointer (some ⟨g, 0, none⟩), .int .i64 m] w fun e w' => (∃ r : Bool, e = .returned (.bool r)) ∧ Drw w0 w' g a n c (T + 1) zs ∧ Inn g (g + 1) w w' := by
  go_enter Try.func74, Try.ntmps74
  go_wp2_with fail
  refine (c_next w0 w g a n c T zs m h hT hm).mono ?_
  rintro e w' ⟨⟨r, rfl, r0, r1⟩, hd, hi⟩
  have HD2 : Hid (Drw w0 w' g a n c (T + 1) zs) := hd
  have HI : Hid (Inn g (g + 1) w w') := hi
  have hw : IntKind.i64.wrap (m - 1) = m - 1 := by simp [IntKind.wrap_i64]; omega
  clear hd hi h
  go_wp2
  go_ret
  exact ⟨⟨_, rfl⟩, HD2.out, HI.out⟩

set_option maxHeartbeats 1000000 in
theorem c_pick (w0 w : World) (g : Nat) (a : Option Addr) (n c T : Nat) (zs : List Int) (la : Option Addr) (ln lc : Nat) (ss : List ByteArray) (h : Drw w0 w g a n c T zs) (hT : T ≤ 1000000) (hl : 1 ≤ ln ∧ ln ≤ 256) (hr : RdV w la ln (ss.map Value.string)) (hg : ∀ b, ob la = some b → g < b) :
    Calls Try.prog 75 #[.pointer (some ⟨g, 0, none⟩), .slice la ln lc] w fun e w' => (∃ s ∈ ss, e = .returned (.string s)) ∧ Drw w0 w' g a n c (T + 1) zs ∧ Inn g (g + 1) w w' := by
  have hls : ss.length = ln := by simpa using hr.1
  obtain ⟨b, off, rfl, hbl, hc⟩ := hr.2 (by omega)
  have hgb : g < b := hg b rfl
  have h0 : ((ln : Int) == 0) = false := by simp; omega
  have HC : Hid (∀ i, i < ln → w.cell? ⟨b, off + i, none⟩ = (ss.map Value.string)[i]?) := hc
  clear hc hr hg
  go_enter Try.func75, Try.ntmps75
  go_wp2_with fail
  refine (c_next w0 w g a n c T zs ln h hT (by omega)).mono ?_
  rintro e w' ⟨⟨r, rfl, r0, r1⟩, hd, hi⟩
  obtain ⟨k, rfl⟩ : ∃ k : Nat, r = (k : Int) := ⟨r.toNat, by omega⟩
  have hk : k < ln := by omega
  obtain ⟨s, hs⟩ : ∃ s, s = ss.getD k ⟨#[]⟩ := ⟨_, rfl⟩
  have hms : Hid (s ∈ ss) := by unfold Hid; rw [hs, List.getD_eq_getElem?_getD, List.getElem?_eq_getElem (by omega)]; exact List.getElem_mem (by omega)
  have e0 : w'.cell? ⟨b, off + k, none⟩ = some (.string s) := by
    rw [World.cell?_of_block (a := ⟨b, off + k, none⟩) (hi.block b hbl (.inr (by omega))), HC.out k hk, hs]; exact map_get _ _ _ _ (by omega)
  have HD2 : Hid (Drw w0 w' g a n c (T + 1) zs) := hd
  have HI : Hid (Inn g (g + 1) w w') := hi
  clear hd hi h hs
  go_wp2
  go_ret
  exact ⟨⟨s, hms.out, rfl⟩, HD2.out, HI.out⟩

theorem Inn.trans_grown {B E : Nat} {w w1 w2 : World} {row : Option Nat} (h : Inn B E w w1) (hg : w1.grownBy w2 row) (hr : ∀ x, row = some x → w.heap.size ≤ x) : Inn B E w w2 :=
  ⟨hg.os.trans h.os, hg.tape.trans h.tape, hg.output.trans h.output, Nat.le_trans h.size hg.size, fun k hk ho => (hg.block k (Nat.lt_of_lt_of_le hk h.size) (fun e => by have := hr k e.symm; omega)).trans (h.block k hk ho)⟩
theorem Drw.grown {w0 w w' : World} {g n c T : Nat} {a : Option Addr} {zs : List Int} {row : Option Nat} (h : Drw w0 w g a n c T zs) (hg : w.grownBy w' row) (hr : ∀ x, row = some x → g < x) : Drw w0 w' g a n c T zs := by
  obtain ⟨i, z, hx, h1⟩ := h.src
  exact ⟨h.code, h.bytes, h.len, h.behind, h.kept.grown hg h.kept.size (fun x e => by have := hr x e; have := h.behind; omega), ⟨i, z, hx.grown hg (fun e => by have := hr g e; omega), h1⟩⟩
theorem cell_num1 (w : World) (x : Value) (t : TypeId) : ∀ j u, [x][j]? = some u → (w.alloc (.cells #[x] t)).cell? ((⟨w.heap.size, 0, none⟩ : Addr).add j) = some u := by
  intro j u hj
  have hb := Box.new w #[x] t
  rw [addr_add, Nat.zero_add, hb.cell j]
  rw [← hj]
  simp
set_option maxHeartbeats 2000000 in
theorem c_keeps (w0 w : World) (g : Nat) (a : Option Addr) (n c T : Nat) (zs : List Int) (h : Drw w0 w g a n c T zs) (hT : T ≤ 900000) :
    Calls Try.prog 52 #[.pointer (some ⟨g, 0, none⟩)] w fun e w' => (∃ (K : List Int) (a' : Option Addr) (c' : Nat), e = .returned (.slice a' K.length c') ∧ K.length ≤ 11 ∧ w'.ownsRow w.heap.size 3 1 (.slice a' K.length c') K.length (K.map (Value.int .i64))) ∧ Drw w0 w' g a n c (T + 13) zs ∧ Inn g (g + 1) w w' := by
  obtain ⟨i3, hi3, hz30, hz31, hz32⟩ := info_parts infoI
  have hgl : g < w.heap.size := h.src.lt
  have HD : Hid (Drw w0 (w.alloc (.cells #[] 3)) g a n c T zs) := h.below ((Below.refl _ _).alloc (Nat.le_refl _) _)
  have HO : Hid ((w.alloc (.cells #[] 3)).ownsRow w.heap.size 3 1 (.slice (some ⟨w.heap.size, 0, none⟩) 0 0) 0 []) := World.ownsRow_lit w #[] 0 (Nat.le_refl _) (Nat.zero_le _) rfl
  have HI0 : Hid (Inn g (g + 1) w (w.alloc (.cells #[] 3))) := Inn.of_below ((Below.refl _ _).alloc (Nat.le_refl _) _)
  clear h
  go_enter Try.func52, Try.ntmps52
  go_wp2_with fail
  refine (c_next w0 _ g a n c T zs 12 HD.out (by omega) (by omega)).mono ?_
  rintro e w1 ⟨⟨r, rfl, r0, r1⟩, hd, hi⟩
  obtain ⟨q, rfl⟩ : ∃ q : Nat, r = (q : Int) := ⟨r.toNat, by omega⟩
  have hq : q ≤ 11 := by omega
  have HD1 : Hid (Drw w0 w1 g a n c (T + 1) zs) := hd
  have HI1 : Hid (Inn g (g + 1) w w1) := HI0.out.trans hi
  have HO1 : Hid (w1.ownsRow w.heap.size 3 1 (.slice (some ⟨w.heap.size, 0, none⟩) 0 0) 0 []) := own_same HO.out fun x e => hi.block x (HO.out.lt x e).2 (.inr (by have e' : w.heap.size = x := Option.some.inj e; omega))
  clear hd hi HD HO HI0
  go_wp2
  go_loopw [3, 4] (fun x i wr => ∃ (k : Nat) (K : List Int) (ak : Option Addr) (ck : Nat), k ≤ q ∧ i = .int .i64 k ∧ K.length + k = q ∧ x = .slice ak K.length ck ∧ wr.ownsRow w.heap.size 3 1 (.slice ak K.length ck) K.length (K.map (Value.int .i64)) ∧ Drw w0 wr g a n c (T + 1 + K.length) zs ∧ Inn g (g + 1) w wr) (fun _ i _ => (intOf i).toNat)
  case atStart => exact ⟨q, [], _, 0, Nat.le_refl _, rfl, by simp, rfl, HO1.out, HD1.out, HI1.out⟩
  case round =>
    obtain ⟨k, K, ak, ck, hk, rfl, hKl, rfl, hown, hd, hi⟩ := hrel
    by_cases hpos : 0 < k
    · have HOW : Hid (wr.ownsRow w.heap.size 3 1 (.slice ak K.length ck) K.length (K.map (Value.int .i64))) := hown
      have HIW : Hid (Inn g (g + 1) w wr) := hi
      have swr : w.heap.size ≤ wr.heap.size := hi.size
      go_wp2_with fail
      refine (c_next w0 wr g a n c _ zs 2 hd (by omega) (by omega)).mono ?_
      rintro e w2 ⟨⟨y, rfl, y0, y1⟩, hd2, hi2⟩
      have how2 : w2.ownsRow w.heap.size 3 1 (.slice ak K.length ck) K.length (K.map (Value.int .i64)) := own_same HOW.out fun x e => hi2.block x (HOW.out.lt x e).2 (.inr (by have := (HOW.out.lt x e).1; omega))
      have HD2 : Hid (Drw w0 w2 g a n c (T + 1 + K.length + 1) zs) := hd2
      have HI2 : Hid (Inn g (g + 1) w w2) := HIW.out.trans hi2
      have sw2 : w.heap.size ≤ w2.heap.size := HI2.out.size
      clear hown hd hi hd2 hi2 HOW HIW
      go_wp2_with (at_builtin; refine app_any _ rfl (.tmp 12) (.tmp 15) 25 rfl w.heap.size 3 i3 (.int .i64 0) 1 8 Try.underlying25 hi3 hz30 hz31 hz32 rfl (by omega) (.slice ak K.length ck) K.length (K.map (Value.int .i64)) rfl (how2.alloc _) (some ⟨w2.heap.size, 0, none⟩) 1 1 [.int .i64 y] rfl (fun h => by cases h) rfl (fun ad e => by cases e; exact cell_num1 _ _ _) (by intro u hu; simp at hu; subst hu; rfl) (by unfold maxLen; omega) (by omega) (by simp; omega) ?_; intro a' c' w5 ho hg hkk)
      have hbi : Inn g (g + 1) w w5 := ((HI2.out.trans (Inn.of_below ((Below.refl _ _).alloc (Nat.le_refl _) _))).trans_grown hg (fun x e => (how2.lt x e).1))
      have hd5 : Drw w0 w5 g a n c (T + 1 + K.length + 1) zs := (HD2.out.below ((Below.refl _ _).alloc (Nat.le_refl _) _)).grown hg (fun x e => by have := (how2.lt x e).1; omega)
      have ho5 : w5.ownsRow w.heap.size 3 1 (.slice a' (K ++ [y]).length c') (K ++ [y]).length ((K ++ [y]).map (Value.int .i64)) := by
        rw [List.map_append, List.length_append]; exact ho
      have HL : Hid ((K ++ [y]).length = K.length + 1) := by unfold Hid; simp
      clear ho hg hkk
      go_roundw
      case rel => exact ⟨k - 1, K ++ [y], a', c', by omega, by go_num, by rw [HL.out]; omega, by rw [HL.out], ho5, by rw [HL.out]; exact hd5, hbi⟩
      case measure => simp [intOf]; omega
    · have e : k = 0 := by omega
      subst e
      have HD3 : Hid (Drw w0 wr g a n c (T + 13) zs) := hd.mono (by omega)
      clear hd
      go_wp2
      go_ret
      exact ⟨⟨K, ak, ck, rfl, by omega, hown⟩, HD3.out, hi⟩
end Go.Proofs.Ytefbaemcdfmhpaa
