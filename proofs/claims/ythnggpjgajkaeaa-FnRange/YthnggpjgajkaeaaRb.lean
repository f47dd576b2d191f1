/-
  The draws: numbers, chances, texts, lists of numbers.
-/
import Derived.Test.YthnggpjgajkaeaaRa
namespace Go.Proofs.Ythnggpjgajkaeaa
open Go Go.RowKit
attribute [local go_sem ↓] Go.wp_at_zero Go.wp_at_succ

/-- A source at g over the code that lies in w0. -/
structure Drw (w0 w : World) (g : Nat) (a : Option Addr) (n c T : Nat) (zs : List Int) : Prop where
  code : RdV w0 a n (zs.map (Value.int .u8))
  bytes : ∀ z ∈ zs, 0 ≤ z ∧ z < 256
  len : n ≤ maxLen
  behind : w0.heap.size ≤ g
  kept : Below w0.heap.size w0 w
  src : Src w g a n c T
theorem Drw.inn {w0 w w' : World} {g n c T B E : Nat} {a : Option Addr} {zs : List Int} (h : Drw w0 w g a n c T zs) (hb : Inn B E w w') (hg : g < B ∨ E ≤ g) (h0 : w0.heap.size ≤ B) : Drw w0 w' g a n c T zs :=
  ⟨h.code, h.bytes, h.len, h.behind, h.kept.trans (hb.below h0 h.kept.size), h.src.inn hb hg⟩
theorem Drw.below {w0 w w' : World} {g n c T : Nat} {a : Option Addr} {zs : List Int} (h : Drw w0 w g a n c T zs) (hb : Below w.heap.size w w') : Drw w0 w' g a n c T zs :=
  ⟨h.code, h.bytes, h.len, h.behind, h.kept.trans (hb.mono h.kept.size), h.src.below hb⟩
theorem Drw.mono {w0 w : World} {g n c T T' : Nat} {a : Option Addr} {zs : List Int} (h : Drw w0 w g a n c T zs) (ht : T ≤ T') : Drw w0 w g a n c T' zs :=
  ⟨h.code, h.bytes, h.len, h.behind, h.kept, h.src.mono ht⟩
theorem c_byteD (w0 w : World) (g : Nat) (a : Option Addr) (n c T : Nat) (zs : List Int) (h : Drw w0 w g a n c T zs) (hT : T ≤ 1000000) :
    Calls Try.prog 85 #[.pointer (some ⟨g, 0, none⟩)] w fun e w' => (∃ r : Int, e = .returned (.int .i64 r) ∧ 0 ≤ r ∧ r < 256) ∧ Drw w0 w' g a n c (T + 1) zs ∧ Inn g (g + 1) w w' := by
  refine (c_byte g a n c T zs w h.src (h.code.below h.kept) h.bytes h.len hT ?_).mono ?_
  · intro b off hn e
    obtain ⟨b', off', e', hlt, _⟩ := h.code.2 hn
    rw [e] at e'
    cases e'
    have := h.behind
    omega
  · rintro e w' ⟨hr, hs, hi⟩
    exact ⟨hr, ⟨h.code, h.bytes, h.len, h.behind, h.kept.trans (hi.below h.behind h.kept.size), hs⟩, hi⟩

set_option maxRecDepth 100000 in
set_option maxHeartbeats 1000000 in
theorem c_next (w0 w : World) (g : Nat) (a : Option Addr) (n c T : Nat) (zs : List Int) (m : Int) (h : Drw w0 w g a n c T zs) (hT : T ≤ 1000000) (hm : 1 ≤ m ∧ m ≤ 256) :
    Calls Try.prog 59 #[.pointer (some ⟨g, 0, none⟩), .int .i64 m] w fun e w' => (∃ r : Int, e = .returned (.int .i64 r) ∧ 0 ≤ r ∧ r < m) ∧ Drw w0 w' g a n c (T + 1) zs ∧ Inn g (g + 1) w w' := by
  have HD : Hid (Drw w0 w g a n c T zs) := h
  clear h
  by_cases h1 : m ≤ 1
  · go_enter Try.func59, Try.ntmps59
    go_wp2
    go_ret
    exact ⟨⟨0, rfl, by omega, by omega⟩, HD.out.mono (Nat.le_succ _), Inn.refl _ _ _⟩
  · have h2 : m ≤ 256 := hm.2
    go_enter Try.func59, Try.ntmps59
    go_wp2_with fail
    refine (c_byteD w0 w g a n c T zs HD.out hT).mono ?_
    rintro e w' ⟨⟨r, rfl, r0, r1⟩, hd, hi⟩
    have hmz : (m == 0) = false := by simp; omega
    have hmz2 : ¬ m = 0 := by omega
    have hq : r.tmod m = r % m := Int.tmod_eq_emod_of_nonneg r0
    have hq2 : 0 ≤ r % m ∧ r % m < m := ⟨Int.emod_nonneg _ (by omega), Int.emod_lt_of_pos _ (by omega)⟩
    have HD2 : Hid (Drw w0 w' g a n c (T + 1) zs) := hd
    have HI : Hid (Inn g (g + 1) w w') := hi
    have hw : IntKind.i64.wrap (r % m) = r % m := by simp [IntKind.wrap_i64]; omega
    clear hd hi
    go_wp2
    go_ret
    exact ⟨⟨_, rfl, by first | exact hq2.1 | (rw [hq]; exact hq2.1), by first | exact hq2.2 | (rw [hq]; exact hq2.2)⟩, HD2.out, HI.out⟩

theorem Inn.trans_grown {B E : Nat} {w w1 w2 : World} {row : Option Nat} (h : Inn B E w w1) (hg : w1.grownBy w2 row) (hr : ∀ x, row = some x → w.heap.size ≤ x) : Inn B E w w2 :=
  ⟨hg.os.trans h.os, hg.tape.trans h.tape, hg.output.trans h.output, Nat.le_trans h.size hg.size, fun k hk ho => (hg.block k (Nat.lt_of_lt_of_le hk h.size) (fun e => by have := hr k e.symm; omega)).trans (h.block k hk ho)⟩
theorem Drw.grown {w0 w w' : World} {g n c T : Nat} {a : Option Addr} {zs : List Int} {row : Option Nat} (h : Drw w0 w g a n c T zs) (hg : w.grownBy w' row) (hr : ∀ x, row = some x → g < x) : Drw w0 w' g a n c T zs := by
  obtain ⟨i, z, hx, h1⟩ := h.src
  exact ⟨h.code, h.bytes, h.len, h.behind, h.kept.grown hg h.kept.size (fun x e => by have := hr x e; have := h.behind; omega), ⟨i, z, hx.grown hg (fun e => by have := hr g e; omega), h1⟩⟩
theorem cell_num1 (w : World) (x : Value) (t : TypeId) : ∀ j u, [x][j]? = some u → (w.alloc (.cells #[x] t)).cell? ((⟨w.heap.size, 0, none⟩ : Addr).add j) = some u := by
  intro j u hj
  have hb := Box.new w #[x] t
  rw [addr_add, Nat.zero_add, hb.cell j]
  rw [← hj]
  simp
set_option maxRecDepth 100000 in
set_option maxHeartbeats 1000000 in
theorem c_source (a : Option Addr) (n c : Nat) (zs : List Int) (w : World) (hr : RdV w a n (zs.map (Value.int .u8))) (hz : ∀ z ∈ zs, 0 ≤ z ∧ z < 256) (hn : n ≤ 1048576) :
    Calls Try.prog 37 #[.slice a n c] w fun e w' => e = .returned (.pointer (some ⟨w.heap.size, 0, none⟩)) ∧ Drw w w' w.heap.size a n c 0 zs ∧ Below w.heap.size w w' := by
  have HR : Hid (RdV w a n (zs.map (Value.int .u8))) := hr
  have HZ : Hid (∀ z ∈ zs, 0 ≤ z ∧ z < 256) := hz
  have hm : (n : Int).tmod 1000 = (n : Int) % 1000 := Int.tmod_eq_emod_of_nonneg (by omega)
  have hw : IntKind.i64.wrap ((n : Int) % 1000) = (n : Int) % 1000 := by simp [IntKind.wrap_i64]; omega
  clear hr hz
  go_enter Try.func37, Try.ntmps37
  go_wp2
  go_ret
  have hb : Below w.heap.size w (w.alloc (.cells #[.slice a n c, .int .i64 0, .int .i64 ((n : Int) % 1000)] 81)) := (Below.refl _ _).alloc (Nat.le_refl _) _
  exact ⟨rfl, ⟨HR.out, HZ.out, by unfold maxLen; omega, Nat.le_refl _, hb, ⟨0, (n : Int) % 1000, Box.new _ _ _, by omega, by omega, by omega, by omega⟩⟩, hb⟩

end Go.Proofs.Ythnggpjgajkaeaa
