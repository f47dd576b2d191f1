/-
  The draws: a source of choices out of a code, as far as their bounds go.
-/
import Derived.Test.YthnggpjgajkaeaaBx
namespace Go.Proofs.Ythnggpjgajkaeaa
open Go Go.RowKit
attribute [local go_sem ↓] Go.wp_at_zero Go.wp_at_succ

/-- A source at g: the code, how far it was read, a seed. -/
def Src (w : World) (g : Nat) (a : Option Addr) (n c T : Nat) : Prop := ∃ i z : Int, Box w g 81 #[.slice a n c, .int .i64 i, .int .i64 z] ∧ 0 ≤ i ∧ i ≤ T ∧ 0 ≤ z ∧ z < 2147483648
theorem Src.lt {w : World} {g n c T : Nat} {a : Option Addr} (h : Src w g a n c T) : g < w.heap.size := by obtain ⟨_, _, hb, _⟩ := h; exact hb.lt
theorem Src.below {w w' : World} {g n c T : Nat} {a : Option Addr} (h : Src w g a n c T) (hb : Below w.heap.size w w') : Src w' g a n c T := by
  obtain ⟨i, z, hx, h1⟩ := h; exact ⟨i, z, hx.belowS hb, h1⟩
theorem Src.inn {w w' : World} {g n c T B E : Nat} {a : Option Addr} (h : Src w g a n c T) (hb : Inn B E w w') (hg : g < B ∨ E ≤ g) : Src w' g a n c T := by
  obtain ⟨i, z, hx, h1⟩ := h; exact ⟨i, z, hx.innO hb hg, h1⟩
theorem Src.mono {w : World} {g n c T T' : Nat} {a : Option Addr} (h : Src w g a n c T) (ht : T ≤ T') : Src w g a n c T' := by
  obtain ⟨i, z, hx, h1, h2, h3⟩ := h; exact ⟨i, z, hx, h1, by omega, h3⟩
theorem boxT3 {w : World} {g : Nat} {t : TypeId} {v0 v1 v2 : Value} (h : Box w g t #[v0, v1, v2]) : w.cell? ⟨g, 0, none⟩ = some v0 ∧ w.cell? ⟨g, 1, none⟩ = some v1 ∧ w.cell? ⟨g, 2, none⟩ = some v2 := ⟨h.cell 0, h.cell 1, h.cell 2⟩
theorem Inn.set {B E : Nat} {w w' : World} (h : Inn B E w w') (p : Addr) (v : Value) (hp : B ≤ p.block ∧ p.block < E) : Inn B E w (w'.setCell p v) :=
  ⟨h.os, h.tape, h.output, by have := h.size; simpa using this, fun k hk ho => (Below.heap_setCell w' p v k (by omega)).trans (h.block k hk ho)⟩
theorem Inn.refl (B E : Nat) (w : World) : Inn B E w w := ⟨rfl, rfl, rfl, Nat.le_refl _, fun _ _ _ => rfl⟩
theorem Inn.drew {B E : Nat} {w w' : World} (h : Inn B E w w') : Inn B E w w'.drew := ⟨h.os, h.tape, h.output, h.size, h.block⟩
def byteOf (zs : List Int) (k : Nat) : Int := zs.getD k 0

set_option maxRecDepth 100000 in
set_option maxHeartbeats 4000000 in
theorem c_byte (g : Nat) (a : Option Addr) (n c T : Nat) (zs : List Int) (w : World) (hs : Src w g a n c T) (hr : RdV w a n (zs.map (Value.int .u8))) (hz : ∀ z ∈ zs, 0 ≤ z ∧ z < 256) (hn : n ≤ maxLen) (hT : T ≤ 1000000) (hga : ∀ b off, 0 < n → a = some ⟨b, off, none⟩ → b ≠ g) :
    Calls Try.prog 85 #[.pointer (some ⟨g, 0, none⟩)] w fun e w' => (∃ r : Int, e = .returned (.int .i64 r) ∧ 0 ≤ r ∧ r < 256) ∧ Src w' g a n c (T + 1) ∧ Inn g (g + 1) w w' := by
  obtain ⟨i, z, bx, i0, i1, z0, z1⟩ := hs
  unfold maxLen at hn
  have l0 : zs.length = n := by simpa using hr.1
  obtain ⟨v0, v1, v2⟩ := boxT3 bx
  have t1 := bx.thaw 1
  obtain ⟨V, hV⟩ : ∃ V, w.setCell ⟨g, 1, none⟩ (.int .i64 (i + 1)) = V := ⟨_, rfl⟩
  have bV := bx.set 1 (.int .i64 (i + 1))
  rw [hV] at bV
  simp at bV
  have iV : Inn g (g + 1) w V := by rw [← hV]; exact (Inn.refl _ _ _).set _ _ (by simp)
  obtain ⟨s0, s1, s2⟩ := boxT3 bV
  have t2 := bV.thaw 2
  have HX : Hid (Box V g 81 #[.slice a n c, .int .i64 (i + 1), .int .i64 z]) := bV
  have HI : Hid (Inn g (g + 1) w V) := iV
  have HR : Hid (RdV V a n (zs.map (Value.int .u8))) := by
    refine ⟨hr.1, fun h => ?_⟩
    obtain ⟨b, off, e, hlt, hc⟩ := hr.2 h
    exact ⟨b, off, e, by have := iV.size; omega, fun j hj => (World.cell?_of_block (iV.block b hlt (by have h1 := hga b off h e; omega))).trans (hc j hj)⟩
  have HZ : Hid (∀ z ∈ zs, 0 ≤ z ∧ z < 256) := hz
  have HGA : Hid (∀ b off, 0 < n → a = some ⟨b, off, none⟩ → b ≠ g) := hga
  clear hr hz bx bV iV hga
  by_cases hle : i + 1 ≤ n
  · obtain ⟨k, hk⟩ : ∃ k : Nat, i = (k : Int) := ⟨i.toNat, by omega⟩
    subst hk
    have hkn : k < n := by omega
    obtain ⟨b, off, rfl, hbl, hc⟩ := HR.out.2 (by omega)
    obtain ⟨y, hy⟩ : ∃ y, y = zs.getD k 0 := ⟨_, rfl⟩
    have hyr : 0 ≤ y ∧ y < 256 := by rw [hy]; exact HZ.out _ (by rw [List.getD_eq_getElem?_getD, List.getElem?_eq_getElem (by omega)]; exact List.getElem_mem (by omega))
    have e0 : V.cell? ⟨b, off + k, none⟩ = some (.int .u8 y) := by rw [hc k hkn, hy]; exact map_get _ _ _ _ (by omega)
    have hw1 : IntKind.i64.wrap y = y := by simp [IntKind.wrap_i64]; omega
    have hw2 : IntKind.i64.wrap (k : Int) = k := by simp [IntKind.wrap_i64]; omega
    have hw3 : IntKind.i64.wrap (z * 31) = z * 31 := by simp [IntKind.wrap_i64]; omega
    have hw4 : IntKind.i64.wrap (z * 31 + y) = z * 31 + y := by simp [IntKind.wrap_i64]; omega
    have hw5 : IntKind.i64.wrap (z * 31 + y + 7) = z * 31 + y + 7 := by simp [IntKind.wrap_i64]; omega
    have HBG : Hid (b ≠ g) := HGA.out b off (by omega) rfl
    have g1 : (0 : Int) ≤ (k : Int) := by omega
    have g2 : (k : Int) < (n : Int) := by omega
    clear hc hy
    go_enter Try.func85, Try.ntmps85
    go_wp2_with fail
    go_region_held3 (fun x => x.cell? ⟨g, 0, none⟩ = some (.slice (some ⟨b, off, none⟩) n c) ∧ x.cell? ⟨g, 1, none⟩ = some (.int .i64 ((k : Int) + 1))) (first | go_keep) (first | fail)
    obtain ⟨z', hz'⟩ : ∃ z', z' = (z * 31 + y + 7) % 2147483648 := ⟨_, rfl⟩
    have hzr : 0 ≤ z' ∧ z' < 2147483648 := by rw [hz']; omega
    have hz2 : (z * 31 + y + 7) % 2147483648 = z' := hz'.symm
    have hm : (z * 31 + y + 7).tmod 2147483648 = z' := by rw [Int.tmod_eq_emod_of_nonneg (by omega)]; exact hz2
    have hbg : b ≠ g := HBG.out
    have x3 := HX.out.set 2 (.int .i64 z')
    simp at x3
    have HX3 : Hid (Box (V.setCell ⟨g, 2, none⟩ (.int .i64 z')) g 81 #[.slice (some ⟨b, off, none⟩) n c, .int .i64 ((k : Int) + 1), .int .i64 z']) := x3
    clear x3 hz' hbg
    go_wp2_with fail
    go_region_with (first | fail)
    all_goals
      obtain ⟨u0, u1, u2⟩ := boxT3 HX3.out
      have u3 : (V.setCell ⟨g, 2, none⟩ (.int .i64 z')).cell? ⟨b, off + k, none⟩ = some (.int .u8 y) := (World.cell?_of_block (Below.heap_setCell V ⟨g, 2, none⟩ _ b HBG.out)).trans e0
      clear e0 s0 s1 s2 t2 v0 v1 v2 t1
      go_wp2_with fail
      go_region_held3 (fun x => x.cell? ⟨g, 0, none⟩ = some (.slice (some ⟨b, off, none⟩) n c) ∧ x.cell? ⟨g, 1, none⟩ = some (.int .i64 ((k : Int) + 1)) ∧ x.cell? ⟨b, off + k, none⟩ = some (.int .u8 y)) (first | go_keep) (first | fail)
      go_wp2
      go_ret
      exact ⟨⟨y, rfl, hyr.1, hyr.2⟩, ⟨(k : Int) + 1, z', HX3.out, by omega, by omega, hzr.1, hzr.2⟩, ((((HI.out.set ⟨g, 2, none⟩ (.int .i64 z') (by simp)).drew).drew).drew)⟩
  · have hnn : ¬ i + 1 ≤ (n : Int) := hle
    have hw1 : IntKind.i64.wrap (i + 1) = i + 1 := by simp [IntKind.wrap_i64]; omega
    by_cases hbig : 3000 < i + 1
    · go_enter Try.func85, Try.ntmps85
      go_wp2_with fail
      go_region_held3 (fun x => x.cell? ⟨g, 0, none⟩ = some (.slice a n c) ∧ x.cell? ⟨g, 1, none⟩ = some (.int .i64 (i + 1))) (first | go_keep) (first | fail)
      go_wp2
      go_ret
      exact ⟨⟨0, rfl, by omega, by omega⟩, ⟨i + 1, z, HX.out, by omega, by omega, z0, z1⟩, HI.out.drew⟩
    · obtain ⟨z', hz'⟩ : ∃ z', z' = (z * 1103515245 + 12345) % 2147483648 := ⟨_, rfl⟩
      have hzr : 0 ≤ z' ∧ z' < 2147483648 := by rw [hz']; omega
      have hz2 : (z * 1103515245 + 12345) % 2147483648 = z' := hz'.symm
      have hm : (z * 1103515245 + 12345).tmod 2147483648 = z' := by rw [Int.tmod_eq_emod_of_nonneg (by omega)]; exact hz2
      have hw3 : IntKind.i64.wrap (z * 1103515245) = z * 1103515245 := by simp [IntKind.wrap_i64]; omega
      have hw4 : IntKind.i64.wrap (z * 1103515245 + 12345) = z * 1103515245 + 12345 := by simp [IntKind.wrap_i64]; omega
      have hq : (z'.tdiv 65536) = z' / 65536 := Int.tdiv_eq_ediv_of_nonneg hzr.1
      have hq2 : (z' / 65536).tmod 256 = z' / 65536 % 256 := Int.tmod_eq_emod_of_nonneg (by omega)
      have x3 := HX.out.set 2 (.int .i64 z')
      simp at x3
      have HX3 : Hid (Box (V.setCell ⟨g, 2, none⟩ (.int .i64 z')) g 81 #[.slice a n c, .int .i64 (i + 1), .int .i64 z']) := x3
      obtain ⟨u0, u1, u2⟩ := boxT3 x3
      clear x3 hz'
      go_enter Try.func85, Try.ntmps85
      go_wp2_with fail
      go_region_held3 (fun x => x.cell? ⟨g, 0, none⟩ = some (.slice a n c) ∧ x.cell? ⟨g, 1, none⟩ = some (.int .i64 (i + 1))) (first | go_keep) (first | fail)
      go_wp2
      go_ret
      exact ⟨⟨_, rfl, by omega, by omega⟩, ⟨i + 1, z', HX3.out, by omega, by omega, hzr.1, hzr.2⟩, (HI.out.set ⟨g, 2, none⟩ (.int .i64 z') (by simp)).drew⟩
end Go.Proofs.Ythnggpjgajkaeaa
