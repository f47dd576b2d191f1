/-
  rowWords: the three words of a row.
-/
import Derived.Test.YtknjglgellhchaaDoorEa
import Derived.Test.YtknjglgellhchaaDoorVu
import Derived.Test.YtknjglgellhchaaDoorBx
import Derived.Deep.RegionHeld3
namespace Go.Proofs.YtknjglgellhchaaDoor
open Go Go.RowKit
attribute [local go_sem ↓] Go.wp_at_zero Go.wp_at_succ

set_option linter.unusedVariables false
set_option linter.unusedSimpArgs false
def rwS (i : Int) (u v : VV) (c : Nat) : ByteArray := vtS (colE (c : Int) i u v).k (colE (c : Int) i u v).n (colE (c : Int) i u v).t
def rwE (i : Int) (u v : VV) (c : Nat) : Int := vtE (colE (c : Int) i u v).k (colE (c : Int) i u v).n (colE (c : Int) i u v).t
def strs (xs : List ByteArray) : List Value := xs.map .string
theorem strs_one (xs : List ByteArray) (x : ByteArray) : strs (xs ++ [x]) = strs xs ++ [.string x] := by simp [strs]
theorem infoStr : (Tryd.prog.info? 9).map (fun i => (i.zero, i.size, i.bytes)) = some (some (.string ⟨#[]⟩), 1, 16) := by kernel_rfl
theorem one_str (x : ByteArray) : ∀ y ∈ [Value.string x], y.oneCell' = true := by
  intro y hy
  simp only [List.mem_cons, List.not_mem_nil, or_false] at hy
  subst hy; rfl
theorem new_at (X : World) (x : ByteArray) (g : Nat) (hg : X.heap.size = g) : ∀ ad, some (⟨g, 0, none⟩ : Addr) = some ad → ∀ j y, ([Value.string x])[j]? = some y → (X.alloc (.cells #[.string x] 9)).cell? (ad.add j) = some y := by
  intro ad ea j y hj
  cases ea
  have hx := (Box.new X #[.string x] 9).cell j
  rw [hg] at hx
  rw [addr_add, Nat.zero_add, hx]
  simpa using hj
theorem own_blk {w : World} {B n cap : Nat} {a : Option Addr} {xs : List Value} (h : w.ownsRow B 9 1 (.slice a n cap) n xs) : ∀ g, ob a = some g → B ≤ g ∧ g < w.heap.size := fun g hg => by
  rcases own_form h with ⟨e, _⟩ | ⟨g', c', hv, hb, hl⟩
  · simp only [Value.slice.injEq] at e; rw [e.1] at hg; cases hg
  · simp only [Value.slice.injEq] at hv; rw [hv.1] at hg; cases hg; exact ⟨hb, hl⟩
theorem colE_size (c : Nat) (i : Int) (u v : VV) (h1 : u.2.2.size ≤ maxLen) (h2 : v.2.2.size ≤ maxLen) : (colE (c : Int) i u v).t.size ≤ maxLen := by
  unfold colE
  split
  · show (0 : Nat) ≤ maxLen; omega
  · split
    · exact h1
    · exact h2
set_option maxRecDepth 100000 in
set_option maxHeartbeats 4000000 in
theorem c_rowW (i : Int) (u v : VV) (w : World) (h1 : u.2.2.size ≤ maxLen) (h2 : v.2.2.size ≤ maxLen) (T : TabP w) :
    Calls Tryd.prog 44 #[.agg #[.int .i64 i, .int .i64 u.1, .int .i64 u.2.1, .string u.2.2, .int .i64 v.1, .int .i64 v.2.1, .string v.2.2]] w fun e w' => ∃ a c, e = .returned (.slice a 3 c) ∧ w'.ownsRow (w.heap.size + 1) 9 1 (.slice a 3 c) 3 (strs [rwS i u v 0, rwS i u v 1, rwS i u v 2]) ∧ Below w.heap.size w w' := by
  obtain ⟨iI, giV, gz0, gz1, gz2⟩ := info_parts infoStr
  have hiI : Hid (Tryd.prog.info? 9 = some iI) := giV
  have hz0 : Hid (iI.zero = some (.string ⟨#[]⟩)) := gz0
  have hz1 : Hid (iI.size = 1) := gz1
  have hz2 : Hid (iI.bytes = 16) := gz2
  obtain ⟨V, hV⟩ : ∃ V, w.alloc (.cells #[.int .i64 i, .int .i64 u.1, .int .i64 u.2.1, .string u.2.2, .int .i64 v.1, .int .i64 v.2.1, .string v.2.2] 50) = V := ⟨_, rfl⟩
  have BV : Hid (Below w.heap.size w V) := by unfold Hid; rw [← hV]; exact (Below.refl _ _).alloc (Nat.le_refl _) _
  have X0 : Hid (Box V w.heap.size 50 #[.int .i64 i, .int .i64 u.1, .int .i64 u.2.1, .string u.2.2, .int .i64 v.1, .int .i64 v.2.1, .string v.2.2]) := by unfold Hid; rw [← hV]; exact Box.new _ _ _
  have TV : Hid (TabP V) := T.below BV.out
  have lV : V.heap.size = w.heap.size + 1 := by rw [← hV]; simp
  obtain ⟨B, hB⟩ : ∃ B, B = w.heap.size + 1 := ⟨_, rfl⟩
  rw [← hB] at lV ⊢
  have HC : Hid (∀ (c : Nat) (W : World), c < 3 → Calls Tryd.prog 89 #[.int .i64 (c : Int), .agg #[.int .i64 i, .int .i64 u.1, .int .i64 u.2.1, .string u.2.2, .int .i64 v.1, .int .i64 v.2.1, .string v.2.2]] W fun e w' => e = .returned (.agg #[.int .i64 (colE (c : Int) i u v).k, .int .i64 (colE (c : Int) i u v).n, .string (colE (c : Int) i u v).t]) ∧ Below W.heap.size W w') := fun c W hc => c_colV (c : Int) i u v W (by unfold inB; simp; omega)
  have HT : Hid (∀ (c : Nat) (W : World), TabP W → Calls Tryd.prog 65 #[.agg #[.int .i64 (colE (c : Int) i u v).k, .int .i64 (colE (c : Int) i u v).n, .string (colE (c : Int) i u v).t]] W fun e w' => e = .returned (.tuple #[.string (rwS i u v c), .int .i64 (rwE i u v c)]) ∧ Below W.heap.size W w') := fun c W h => c_implVT _ _ _ W (colE_size c i u v h1 h2) h
  have OV : Hid (V.ownsRow B 9 1 (.slice none ([] : List ByteArray).length 0) ([] : List ByteArray).length (strs [])) := ⟨rfl, .inl ⟨rfl, rfl⟩⟩
  clear giV gz0 gz1 gz2 T h1 h2
  go_enter Tryd.func44, Tryd.ntmps44
  go_wp2_with fail
  go_loopw [3, 7] (fun s q wr => ∃ (M : List ByteArray) (a : Option Addr) (cap : Nat), s = .slice a M.length cap ∧ q = .int .i64 (M.length : Int) ∧ Hid (wr.ownsRow B 9 1 (.slice a M.length cap) M.length (strs M)) ∧ Hid (Below V.heap.size V wr) ∧ M.length ≤ 3 ∧ Hid (M = (List.range M.length).map (rwS i u v))) (fun _ q _ => 3 - (intOf q).toNat)
  case atStart => exact ⟨[], none, 0, rfl, rfl, OV, Below.refl _ _, by simp, rfl⟩
  case round =>
    obtain ⟨M, a, cap, rfl, rfl, O0, LW, hM, HE⟩ := hrel
    by_cases hlt : M.length < 3
    · have X1 : Hid (Box wr w.heap.size 50 #[.int .i64 i, .int .i64 u.1, .int .i64 u.2.1, .string u.2.2, .int .i64 v.1, .int .i64 v.2.1, .string v.2.2]) := X0.out.belowS LW.out
      obtain ⟨x0, x1, x2, x3, x4, x5, x6⟩ := box7 X1.out
      have g1 : (M.length : Int) < 3 := by omega
      have C1 := HC.out M.length wr hlt
      have lr : V.heap.size ≤ wr.heap.size := LW.out.size
      clear OV X0 hV
      go_wp2_with fail
      refine C1.mono ?_
      rintro e w1 ⟨rfl, hb1⟩
      have C2 := HT.out M.length w1 ((TV.out.below LW.out).below hb1)
      have O1 : Hid (w1.ownsRow B 9 1 (.slice a M.length cap) M.length (strs M)) := own_below O0.out hb1
      have L1 : Hid (Below V.heap.size V w1) := LW.out.trans (hb1.mono lr)
      have lr1 : wr.heap.size ≤ w1.heap.size := hb1.size
      clear C1 hb1 x0 x1 x2 x3 x4 x5 x6
      go_wp2_with fail
      refine C2.mono ?_
      rintro e w2 ⟨rfl, hb2⟩
      have O2 : Hid (w2.ownsRow B 9 1 (.slice a M.length cap) M.length (strs M)) := own_below O1.out hb2
      have L2 : Hid (Below V.heap.size V w2) := L1.out.trans (hb2.mono (by omega))
      have lr2 : w1.heap.size ≤ w2.heap.size := hb2.size
      obtain ⟨x, hx⟩ : ∃ x, rwS i u v M.length = x := ⟨_, rfl⟩
      clear C2 hb2 O0 O1 L1 LW X1
      rw [hx]
      go_wp2_with (at_builtin; refine app_any _ rfl (.tmp 17) (.tmp 19) 34 rfl B 9 iI (.string ⟨#[]⟩) 1 16 Tryd.underlying34 hiI.out hz0.out hz1.out hz2.out rfl (by omega) (.slice a M.length cap) M.length (strs M) rfl (own_below O2.out ((Below.refl _ _).alloc (Nat.le_refl _) _)) _ 1 1 [.string x] rfl (fun ex => by cases ex) rfl (new_at _ x _ (by simp)) (one_str _) (by unfold maxLen; omega) (by omega) (by simp; omega) ?_; intro a2 c2 w5 ho5 hg5 hx5)
      have hl : (M ++ [x]).length = M.length + 1 := by simp
      rw [ob_slice] at hg5 hx5
      have BA : Hid (Below V.heap.size V w5) := by
        have hbl := own_blk O2.out
        refine L2.out.trans ?_
        refine ⟨hg5.os, hg5.tape, hg5.output, Nat.le_trans (by simp) hg5.size, fun j hj => ?_⟩
        rw [hg5.block j (by simp; omega) (fun e => by have := (hbl j e.symm).1; omega)]
        exact ((Below.refl w2.heap.size w2).alloc (Nat.le_refl _) _).block j (by omega)
      refine ⟨⟨M ++ [x], a2, c2, by rw [hl], by rw [hl]; simp, ?_, BA, by rw [hl]; omega, ?_⟩, ?_⟩
      · unfold Hid; rw [hl, strs_one]; exact ho5
      · unfold Hid; rw [hl, List.range_succ, List.map_append, List.map_singleton, hx, ← HE.out]
      · simp only [intOf]; omega
    · have h3 : M.length = 3 := by omega
      have g1 : ¬ (M.length : Int) < 3 := by omega
      have hM3 : M = [rwS i u v 0, rwS i u v 1, rwS i u v 2] := by rw [HE.out, h3]; rfl
      have O9 : Hid (wr.ownsRow B 9 1 (.slice a 3 cap) 3 (strs [rwS i u v 0, rwS i u v 1, rwS i u v 2])) := by unfold Hid; rw [← hM3]; have := O0.out; rwa [h3] at this
      have B9 : Hid (Below w.heap.size w wr) := BV.out.trans (LW.out.mono BV.out.size)
      clear OV X0 hV O0 HE LW HC HT TV
      go_wp2
      go_ret
      exact ⟨a, cap, rfl, hB ▸ O9.out, B9.out⟩

end Go.Proofs.YtknjglgellhchaaDoor
