/-
  How much is drawn, a drawn key; at and sameTexts of the laws.
-/
import Derived.Test.YthnggpjgajkaeaaRb
import Derived.Test.YthnggpjgajkaeaaRc
import Derived.Laws.BytesArg
import Derived.Lib.Strings
import Derived.Deep.RegionWith
import Derived.Deep.RegionHeld3
namespace Go.Proofs.Ythnggpjgajkaeaa
open Go Go.RowKit
attribute [local go_sem ↓] Go.wp_at_zero Go.wp_at_succ
set_option linter.unusedVariables false

theorem conv8T {w : World} {a : Option Addr} {n cap : Nat} {zs : List Int} (h : RdV w a n (zs.map (Value.int .u8))) (hn : 0 < n) : (convert 22 9 (.slice a n cap)).run Try.prog w = .ok (.string (strOfNums zs)) w := by
  obtain ⟨hl, hc⟩ := h
  simp only [List.length_map] at hl
  obtain ⟨b, off, rfl, _, hc⟩ := hc (by omega)
  exact run_convert_bytes_arg w 22 5 Try.underlying22 Try.underlying5 b off n cap zs hl (fun i hi => by rw [hc i hi]; exact map_get _ _ _ _ (by omega)) 9 Try.underlying9
/-- A text of two letters of seven. -/
def TK (m : Int) (s : ByteArray) : Prop := ∃ x y : Int, s = strOfNums [x, y] ∧ (97 ≤ x ∧ x < 97 + m) ∧ 97 ≤ y ∧ y < 97 + m
theorem TK.kOK {m : Int} {s : ByteArray} (h : TK m s) : kOK s = true := by
  obtain ⟨x, y, rfl, _⟩ := h
  rfl
set_option maxRecDepth 100000 in
set_option maxHeartbeats 2000000 in
theorem c_sizeD (w0 w : World) (g : Nat) (a : Option Addr) (n c T : Nat) (zs : List Int) (h : Drw w0 w g a n c T zs) :
    Calls Try.prog 60 #[.pointer (some ⟨g, 0, none⟩), .int .i64 40] w fun e w' => (∃ r : Int, e = .returned (.int .i64 r) ∧ 1 ≤ r ∧ r ≤ 40) ∧ w' = w := by
  obtain ⟨i, z, bx, _⟩ := h.src
  obtain ⟨v0, v1, v2⟩ := boxT3 bx
  have hn := h.len
  unfold maxLen at hn
  have hd : (n : Int).tdiv 12 = (n : Int) / 12 := Int.tdiv_eq_ediv_of_nonneg (by omega)
  have hw1 : IntKind.i64.wrap ((n : Int) / 12) = (n : Int) / 12 := by rw [IntKind.wrap_i64]; omega
  have hw2 : IntKind.i64.wrap (1 + (n : Int) / 12) = 1 + (n : Int) / 12 := by rw [IntKind.wrap_i64]; omega
  by_cases hc : 1 + (n : Int) / 12 ≤ 40
  · clear bx h
    go_enter Try.func60, Try.ntmps60
    go_wp2
    go_ret
    exact ⟨⟨_, rfl, by omega, by omega⟩, rfl⟩
  · clear bx h
    go_enter Try.func60, Try.ntmps60
    go_wp2
    go_ret
    exact ⟨⟨_, rfl, by omega, by omega⟩, rfl⟩
set_option maxRecDepth 100000 in
set_option maxHeartbeats 4000000 in
theorem c_treeKeyD (w0 w : World) (g : Nat) (a : Option Addr) (n c T : Nat) (zs : List Int) (h : Drw w0 w g a n c T zs) (hT : T + 1 ≤ 1000000) :
    Calls Try.prog 61 #[.pointer (some ⟨g, 0, none⟩)] w fun e w' => (∃ s, e = .returned (.string s) ∧ TK 6 s) ∧ Drw w0 w' g a n c (T + 2) zs ∧ Inn g (g + 1) w w' := by
  have C1 := c_next w0 w g a n c T zs 6 h (by omega) (by omega)
  have hgw := h.src.lt
  clear h
  go_enter Try.func61, Try.ntmps61
  go_wp2_with fail
  refine C1.mono ?_
  rintro e w1 ⟨⟨x, rfl, x0, x1⟩, hd1, hi1⟩
  have C2 := c_next w0 w1 g a n c (T + 1) zs 6 hd1 (by omega) (by omega)
  have g1 := hi1.size
  have wx : IntKind.i64.wrap (97 + x) = 97 + x := by rw [IntKind.wrap_i64]; omega
  have wx2 : IntKind.u8.wrap (97 + x) = 97 + x := by rw [IntKind.wrap_u8']; omega
  clear C1 hd1
  go_wp2_with fail
  refine C2.mono ?_
  rintro e w2 ⟨⟨y, rfl, y0, y1⟩, hd2, hi2⟩
  have wy : IntKind.i64.wrap (97 + y) = 97 + y := by rw [IntKind.wrap_i64]; omega
  have wy2 : IntKind.u8.wrap (97 + y) = 97 + y := by rw [IntKind.wrap_u8']; omega
  have g2 := hi2.size
  obtain ⟨V, hV⟩ : ∃ V, w2.alloc (.cells #[.int .u8 (97 + x), .int .u8 (97 + y)] 5) = V := ⟨_, rfl⟩
  have bV : Below w2.heap.size w2 V := by rw [← hV]; exact (Below.refl _ _).alloc (Nat.le_refl _) _
  have XV : Box V w2.heap.size 5 #[.int .u8 (97 + x), .int .u8 (97 + y)] := by rw [← hV]; exact Box.new _ _ _
  have RV : RdV V (some ⟨w2.heap.size, 0, none⟩) 2 ([97 + x, 97 + y].map (Value.int .u8)) := ⟨rfl, fun _ => ⟨_, 0, rfl, XV.lt, fun i hi => by
    rw [Nat.zero_add, XV.cell i]
    have : i = 0 ∨ i = 1 := by omega
    rcases this with rfl | rfl <;> rfl⟩⟩
  have cv := conv8T (cap := 2) RV (by omega)
  have HD : Hid (Drw w0 V g a n c (T + 2) zs) := hd2.below bV
  have HI : Hid (Inn g (g + 1) w V) := by
    refine ⟨?_, ?_, ?_, ?_, fun k hk ho => ?_⟩
    · exact (bV.os.trans hi2.os).trans hi1.os
    · exact (bV.tape.trans hi2.tape).trans hi1.tape
    · exact (bV.output.trans hi2.output).trans hi1.output
    · exact Nat.le_trans (Nat.le_trans g1 g2) bV.size
    · exact ((bV.block k (by omega)).trans (hi2.block k (by omega) ho)).trans (hi1.block k hk ho)
  have HS : Hid (TK 6 (strOfNums [97 + x, 97 + y])) := ⟨_, _, rfl, by omega, by omega⟩
  clear C2 hd2 hi2 hi1 bV RV XV
  go_wp2
  go_ret
  exact ⟨⟨_, rfl, HS.out⟩, HD.out, HI.out⟩
set_option maxRecDepth 100000 in
set_option maxHeartbeats 8000000 in
theorem c_same (a a' : Option Addr) (n cap cap' : Nat) (K : List ByteArray) (w : World) (hr : RdV w a n (K.map Value.string)) (hr' : RdV w a' n (K.map Value.string)) (hn : n ≤ 1048576) :
    Calls Try.prog 17 #[.slice a n cap, .slice a' n cap'] w fun e w' => e = .returned (.bool true) ∧ Below w.heap.size w w' := by
  obtain ⟨hl, hcs⟩ := hr
  obtain ⟨hl', hcs'⟩ := hr'
  simp only [List.length_map] at hl hl'
  go_enter Try.func17, Try.ntmps17
  go_wp2
  go_loopw [5] (fun i wr => ∃ k : Nat, k ≤ n ∧ i = .int .i64 k ∧ Below w.heap.size w wr) (fun i _ => n - (intOf i).toNat)
  case atStart => exact ⟨0, by omega, rfl, Below.refl _ _⟩
  case round =>
    obtain ⟨k, hk, rfl, hb⟩ := hrel
    by_cases hlt : k < n
    · obtain ⟨b, off, rfl, hbl, hc⟩ := hcs (by omega)
      obtain ⟨b', off', rfl, hbl', hc'⟩ := hcs' (by omega)
      obtain ⟨y, hy⟩ : ∃ y, K.getD k zS = y := ⟨_, rfl⟩
      have e0 : w.cell? ⟨b, off + k, none⟩ = some (.string y) := by rw [hc k hlt, ← hy]; exact map_get _ _ _ _ (by omega)
      have e1 : w.cell? ⟨b', off' + k, none⟩ = some (.string y) := by rw [hc' k hlt, ← hy]; exact map_get _ _ _ _ (by omega)
      have f0 : wr.cell? ⟨b, off + k, none⟩ = some (.string y) := (hb.cell (p := ⟨b, off + k, none⟩) hbl).trans e0
      have f1 : wr.cell? ⟨b', off' + k, none⟩ = some (.string y) := (hb.cell (p := ⟨b', off' + k, none⟩) hbl').trans e1
      have q : (y.toList == y.toList) = true := by simp
      have g1 : (0 : Int) ≤ (k : Int) := by omega
      have g2 : (k : Int) < (n : Int) := by omega
      have B : Hid (Below w.heap.size w wr) := hb
      clear hc hc' hcs hcs' hy e0 e1 hb
      go_wp2_with fail
      go_region_held3 (fun x => x.cell? ⟨b, off + k, none⟩ = some (.string y) ∧ x.cell? ⟨b', off' + k, none⟩ = some (.string y)) (first | go_keep) (first | fail)
      go_wp2
      go_roundw
      case rel => exact ⟨k + 1, by omega, by go_num, B.out.drew⟩
      case measure => simp [intOf]; omega
    · have e : k = n := by omega
      subst e
      go_wp2
      go_ret
      exact ⟨rfl, hb⟩
set_option maxRecDepth 100000 in
set_option maxHeartbeats 8000000 in
theorem c_at (a : Option Addr) (n c i : Nat) (m : Int) (zs : List Int) (w : World) (hr : RdV w a n (zs.map (Value.int .u8))) (hz : ∀ z ∈ zs, 0 ≤ z ∧ z < 256) (hn : n ≤ 1048576) (hi : i ≤ 8) (hm : m ≤ 1000) :
    Calls Try.prog 14 #[.slice a n c, .int .i64 i, .int .i64 m] w fun e w' => (∃ r : Int, e = .returned (.int .i64 r) ∧ 0 ≤ r ∧ (1 ≤ m → r < m)) ∧ Below w.heap.size w w' := by
  by_cases h1 : m ≤ 1
  · go_enter Try.func14, Try.ntmps14
    go_wp2
    go_ret
    exact ⟨⟨0, rfl, by omega, by omega⟩, Below.refl _ _⟩
  · have hmz : (m == 0) = false := by simp; omega
    have hmz2 : ¬ m = 0 := by omega
    by_cases h0 : n = 0
    · subst h0
      have w1 : IntKind.i64.wrap ((i : Int) * 7) = (i : Int) * 7 := by rw [IntKind.wrap_i64]; omega
      obtain ⟨q, hq⟩ : ∃ q, ((i : Int) * 7).tmod m = q := ⟨_, rfl⟩
      have hqr : 0 ≤ q ∧ q < m := by
        rw [← hq, Int.tmod_eq_emod_of_nonneg (by omega)]
        exact ⟨Int.emod_nonneg _ (by omega), Int.emod_lt_of_pos _ (by omega)⟩
      have w2 : IntKind.i64.wrap q = q := by rw [IntKind.wrap_i64]; omega
      clear hr hz
      go_enter Try.func14, Try.ntmps14
      go_wp2
      go_ret
      exact ⟨⟨q, rfl, hqr.1, fun _ => hqr.2⟩, Below.refl _ _⟩
    · have hl : zs.length = n := by have := hr.1; simpa using this
      obtain ⟨b, off, rfl, hbl, hc⟩ := hr.2 (by omega)
      obtain ⟨p, hp⟩ : ∃ p : Nat, i % n = p := ⟨_, rfl⟩
      obtain ⟨p', hp'⟩ : ∃ p : Nat, (i + 1) % n = p := ⟨_, rfl⟩
      have hpn : p < n := by rw [← hp]; exact Nat.mod_lt _ (by omega)
      have hpn' : p' < n := by rw [← hp']; exact Nat.mod_lt _ (by omega)
      have t1 : ((i : Int)).tmod (n : Int) = (p : Int) := by rw [Int.tmod_eq_emod_of_nonneg (by omega), ← hp]; exact (Int.natCast_emod i n).symm
      have t2 : ((i : Int) + 1).tmod (n : Int) = (p' : Int) := by rw [Int.tmod_eq_emod_of_nonneg (by omega), ← hp', show (i : Int) + 1 = ((i + 1 : Nat) : Int) by omega]; exact (Int.natCast_emod (i + 1) n).symm
      obtain ⟨d, hd⟩ : ∃ d : Nat, i / n = d := ⟨_, rfl⟩
      have t3 : ((i : Int)).tdiv (n : Int) = (d : Int) := by rw [Int.tdiv_eq_ediv_of_nonneg (by omega), ← hd]; exact (Int.natCast_ediv i n).symm
      have hd8 : d ≤ 8 := by rw [← hd]; exact Nat.le_trans (Nat.div_le_self _ _) hi
      obtain ⟨x, hx⟩ : ∃ x, zs.getD p 0 = x := ⟨_, rfl⟩
      obtain ⟨y, hy⟩ : ∃ y, zs.getD p' 0 = y := ⟨_, rfl⟩
      have e0 : w.cell? ⟨b, off + p, none⟩ = some (.int .u8 x) := by rw [hc p hpn, ← hx]; exact map_get _ _ _ _ (by omega)
      have e1 : w.cell? ⟨b, off + p', none⟩ = some (.int .u8 y) := by rw [hc p' hpn', ← hy]; exact map_get _ _ _ _ (by omega)
      have hx2 : 0 ≤ x ∧ x < 256 := by rw [← hx]; exact hz _ (by rw [List.getD_eq_getElem?_getD, List.getElem?_eq_getElem (by omega)]; exact List.getElem_mem (by omega))
      have hy2 : 0 ≤ y ∧ y < 256 := by rw [← hy]; exact hz _ (by rw [List.getD_eq_getElem?_getD, List.getElem?_eq_getElem (by omega)]; exact List.getElem_mem (by omega))
      obtain ⟨q, hq⟩ : ∃ q, (x * 31 + y + (d : Int)).tmod m = q := ⟨_, rfl⟩
      have hqr : 0 ≤ q ∧ q < m := by
        rw [← hq, Int.tmod_eq_emod_of_nonneg (by omega)]
        exact ⟨Int.emod_nonneg _ (by omega), Int.emod_lt_of_pos _ (by omega)⟩
      have w1 : IntKind.i64.wrap (p : Int) = p := by rw [IntKind.wrap_i64]; omega
      have w2 : IntKind.i64.wrap (p' : Int) = p' := by rw [IntKind.wrap_i64]; omega
      have w3 : IntKind.i64.wrap (d : Int) = d := by rw [IntKind.wrap_i64]; omega
      have w4 : IntKind.i64.wrap ((i : Int) + 1) = (i : Int) + 1 := by rw [IntKind.wrap_i64]; omega
      have w5 : IntKind.i64.wrap x = x := by rw [IntKind.wrap_i64]; omega
      have w6 : IntKind.i64.wrap y = y := by rw [IntKind.wrap_i64]; omega
      have w7 : IntKind.i64.wrap (x * 31) = x * 31 := by rw [IntKind.wrap_i64]; omega
      have w8 : IntKind.i64.wrap (x * 31 + y) = x * 31 + y := by rw [IntKind.wrap_i64]; omega
      have w9 : IntKind.i64.wrap (x * 31 + y + (d : Int)) = x * 31 + y + (d : Int) := by rw [IntKind.wrap_i64]; omega
      have w10 : IntKind.i64.wrap q = q := by rw [IntKind.wrap_i64]; omega
      have n0 : ((n : Int) == 0) = false := by simp; omega
      have n1 : ¬ (n : Int) = 0 := by omega
      have g1 : (0 : Int) ≤ (p : Int) := by omega
      have g2 : (p : Int) < (n : Int) := by omega
      have g3 : (0 : Int) ≤ (p' : Int) := by omega
      have g4 : (p' : Int) < (n : Int) := by omega
      clear hc hr hz hx hy hp hp' hd
      go_enter Try.func14, Try.ntmps14
      go_wp2_with fail
      go_region_held3 (fun x' => x'.cell? ⟨b, off + p, none⟩ = some (.int .u8 x) ∧ x'.cell? ⟨b, off + p', none⟩ = some (.int .u8 y)) (first | go_keep) (first | fail)
      go_wp2
      go_ret
      exact ⟨⟨q, rfl, hqr.1, fun _ => hqr.2⟩, (Below.refl _ _).drew⟩

end Go.Proofs.Ythnggpjgajkaeaa
