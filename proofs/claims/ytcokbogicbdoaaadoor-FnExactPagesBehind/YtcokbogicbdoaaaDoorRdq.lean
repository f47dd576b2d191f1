/-
  The program's reading of a sector: the last write of it, or what is sure.
-/
import Derived.Test.YtcokbogicbdoaaaDoorZzae
namespace Go.Proofs.YtcokbogicbdoaaaDoor
open Go Go.RowKit Go.Shelf
attribute [local go_sem] Oper.semAt_some
attribute [local go_sem ↓] Go.wp_at_zero Go.wp_at_succ


def fdB (ys : List BX) (x : Int) : Option BX := ys.find? fun y => decide (y.2.1 = x)
def vlB (ys : List BX) (x : Int) : ByteArray := ((fdB ys x).map fun y => y.2.2).getD ⟨#[]⟩
/-- What is read of a sector. -/
def rdS (S : List ByteArray) (C : List PP) (j : Nat) : ByteArray := ((fdB (bkL C C.length C.length) j).map fun y => y.2.2).getD (S.getD j ⟨#[]⟩)
theorem fdB_no {ys : List BX} {x : Int} {y : BX} (h : fdB ys x = none) (hy : ¬ y.2.1 = x) : fdB (ys ++ [y]) x = none := by
  unfold fdB at *; rw [List.find?_append, h]; simp [hy]
theorem fdB_yes {ys : List BX} {x : Int} {y : BX} (h : fdB ys x = none) (hy : y.2.1 = x) : fdB (ys ++ [y]) x = some y := by
  unfold fdB at *; rw [List.find?_append, h]; simp [hy]
theorem bkL_split (vs : List PP) (len k : Nat) (h : k ≤ len) : ∃ r, bkL vs len len = bkL vs len k ++ r := by
  refine ⟨((List.range' k (len - k))).map (bkF vs len), ?_⟩
  unfold bkL
  rw [← List.map_append]
  congr 1
  have h2 := List.range'_append_1 (s := 0) (m := k) (n := len - k)
  rw [Nat.zero_add, show k + (len - k) = len by omega] at h2
  rw [List.range_eq_range', List.range_eq_range', h2]
theorem rdS_hit {S : List ByteArray} {C : List PP} {j k : Nat} (hk : k ≤ C.length) {y : BX} (h : fdB (bkL C C.length k) j = some y) : rdS S C j = y.2.2 := by
  obtain ⟨r, hr⟩ := bkL_split C C.length k hk
  unfold rdS
  have : fdB (bkL C C.length C.length) j = some y := by rw [hr]; unfold fdB at *; rw [List.find?_append, h]; rfl
  rw [this]; rfl
theorem rdS_miss {S : List ByteArray} {C : List PP} {j : Nat} (h : fdB (bkL C C.length C.length) j = none) : rdS S C j = S.getD j ⟨#[]⟩ := by unfold rdS; rw [h]; rfl
theorem block_own {β : Type} (B : Nat) (t : TypeId) (c : Array Value) : Own (fun (_ : β) W => Box W B t c) := fun s X Y row hs hg hrow =>
  (hg.block B hs.lt (fun e' => by obtain ⟨o, ho, hc⟩ := hrow B e'.symm; rw [show X.heap[B]? = _ from hs] at ho; cases ho; cases hc)).trans hs
set_option maxRecDepth 100000 in
set_option maxHeartbeats 4000000 in
theorem rs_in (F : Fence) (n : Nat) (h49 : F.fn 51) (h78 : F.fn 72) (h84 : F.fn 82) (hro : F.round = none) (hn : 6 ≤ n) (a0 : Option Addr) (n0 c0 : Nat) (a1 : Option Addr) (n1 c1 : Nat) (b : Bool) (a2 : Option Addr) (n2 c2 : Nat) (S : List ByteArray) (C : List PP) (j : Nat) (x : Int) (hxj : x = (j : Int)) (w : World)
    (r0 : RdV w a0 n0 (S.map Value.string)) (r1 : RdP w a1 n1 C) (hj : j < n0) (hn0 : n0 ≤ 1048576) (hn1 : n1 ≤ 1048576) :
    CallsIn F n Tryd.prog 51 #[.agg #[.slice a0 n0 c0, .slice a1 n1 c1, .bool b, .slice a2 n2 c2], .int .i64 x] w fun e W' => e = .returned (.string (rdS S C j)) ∧ Below w.heap.size w W' := by
  have h1 : 1 ≤ n := by omega
  have l0 : S.length = n0 := by simpa using r0.1
  have l1 := r1.1
  have HXJ : Hid (x = (j : Int)) := hxj
  clear hxj
  refine callsIn_of_wp_marks Tryd.func51 rfl h49 ?_ hro
  simp only [Tryd.ntmps51, List.size_toArray, List.length_cons, List.length_nil, Nat.reduceAdd, Nat.reduceSub, Array.replicate_succ, Array.replicate_zero, List.push_toArray, List.append_toArray, List.nil_append, List.cons_append]
  gi_wp2_with (gi_at_call 72; refine (bk_in F (n - 1) h78 hro _ _ _ _).mono ?_; rintro e w' ⟨rfl, rfl⟩)
  have bD : Box ((((w.alloc (.cells #[.slice a0 n0 c0, .slice a1 n1 c1, .bool b, .slice a2 n2 c2] 36)).alloc (.cells #[.int .i64 x] 3)).alloc (.cells #[.string ⟨#[]⟩] 9)).alloc (.cells #[.slice a1 n1 c1] 34)) w.heap.size 36 #[.slice a0 n0 c0, .slice a1 n1 c1, .bool b, .slice a2 n2 c2] := (((Box.new w #[.slice a0 n0 c0, .slice a1 n1 c1, .bool b, .slice a2 n2 c2] 36).alloc _).alloc _).alloc _
  have bA := ((Boxed.new (w.alloc (.cells #[.slice a0 n0 c0, .slice a1 n1 c1, .bool b, .slice a2 n2 c2] 36)) 3 (.int .i64 x)).alloc (.cells #[.string ⟨#[]⟩] 9)).alloc (.cells #[.slice a1 n1 c1] 34)
  have bR := (Boxed.new ((w.alloc (.cells #[.slice a0 n0 c0, .slice a1 n1 c1, .bool b, .slice a2 n2 c2] 36)).alloc (.cells #[.int .i64 x] 3)) 9 (.string ⟨#[]⟩)).alloc (.cells #[.slice a1 n1 c1] 34)
  have bS := Boxed.new (((w.alloc (.cells #[.slice a0 n0 c0, .slice a1 n1 c1, .bool b, .slice a2 n2 c2] 36)).alloc (.cells #[.int .i64 x] 3)).alloc (.cells #[.string ⟨#[]⟩] 9)) 34 (.slice a1 n1 c1)
  simp only [World.size_alloc] at bA bR bS
  have hB0 : Below w.heap.size w ((((w.alloc (.cells #[.slice a0 n0 c0, .slice a1 n1 c1, .bool b, .slice a2 n2 c2] 36)).alloc (.cells #[.int .i64 x] 3)).alloc (.cells #[.string ⟨#[]⟩] 9)).alloc (.cells #[.slice a1 n1 c1] 34)) := ((((Below.refl _ w).alloc (Nat.le_refl _) _).alloc (by simp) _).alloc (by simp; omega) _).alloc (by simp; omega) _
  have hsz : ((((w.alloc (.cells #[.slice a0 n0 c0, .slice a1 n1 c1, .bool b, .slice a2 n2 c2] 36)).alloc (.cells #[.int .i64 x] 3)).alloc (.cells #[.string ⟨#[]⟩] 9)).alloc (.cells #[.slice a1 n1 c1] 34)).heap.size = w.heap.size + 4 := by simp
  obtain ⟨W0, hW0⟩ : ∃ W0, (((w.alloc (.cells #[.slice a0 n0 c0, .slice a1 n1 c1, .bool b, .slice a2 n2 c2] 36)).alloc (.cells #[.int .i64 x] 3)).alloc (.cells #[.string ⟨#[]⟩] 9)).alloc (.cells #[.slice a1 n1 c1] 34) = W0 := ⟨_, rfl⟩
  rw [hW0] at bD bA bR bS hB0 hsz ⊢
  clear hW0
  refine wpIn_rangeFunc_ownH hro h1 (gf := 82) (lb := #[.pointer (some ⟨w.heap.size + 1 + 1 + 1, 0, none⟩)]) rfl h84 (enters_of Tryd.func82 (by kernel_rfl) rfl)
    (bk_stops F (n - 1) h84 hro (by omega) (w.heap.size + 1 + 1 + 1) W0.heap.size a1 n1 c1 C hn1 W0 (by omega) (Nat.le_refl _) bS.cell (r1.below hB0) (fun b' off' hp e => by obtain ⟨b2, off2, e2, hlt, _⟩ := r1.2 hp; rw [e] at e2; cases e2; omega)) belowK_t (belowK_b (Nat.le_refl _)) (Below.refl _ _) (fun _ => rfl)
    (fun pre W => (((fdB pre x = none ∧ Boxed W (w.heap.size + 1 + 1) 9 (.string ⟨#[]⟩)) ∧ Boxed W (w.heap.size + 1) 3 (.int .i64 x)) ∧ Box W w.heap.size 36 #[.slice a0 n0 c0, .slice a1 n1 c1, .bool b, .slice a2 n2 c2]) ∧ Below W0.heap.size W0 W)
    (fun c pre W => ((c = .ret ∧ (fdB pre x).isSome = true) ∧ Boxed W (w.heap.size + 1 + 1) 9 (.string (vlB pre x))) ∧ Below w.heap.size w W)
    (OwnFrom.and (OwnFrom.and (OwnFrom.and (OwnFrom.and (ownFrom_pure _ _) (Own.from (boxed_own _ _ _) _)) (Own.from (boxed_own _ _ _) _)) (Own.from (block_own _ _ _) _)) (ownFrom_below (Nat.le_refl _) (Nat.le_refl _)))
    (fun c => OwnFrom.and (OwnFrom.and (ownFrom_pure _ _) (Own.from (boxed_own _ _ _) _)) (ownFrom_below (Nat.le_refl _) (by omega)))
    ⟨⟨⟨⟨rfl, bR⟩, bA⟩, bD⟩, Below.refl _ _⟩
    (fun y a' W => ∃ Bx, w.heap.size + 4 ≤ Bx ∧ Box W Bx 103 #[.int .i64 y.2.1, .string y.2.2] ∧ a' = { tmps := #[.agg #[.slice a0 n0 c0, .slice a1 n1 c1, .bool b, .slice a2 n2 c2], .int .i64 x, .pointer (some ⟨w.heap.size, 0, none⟩), .pointer (some ⟨w.heap.size + 1, 0, none⟩), .pointer (some ⟨w.heap.size + 1 + 1, 0, none⟩), undef, .pointer (some ⟨Bx, 0, none⟩), .pointer (some ⟨w.heap.size, 1, none⟩), .slice a1 n1 c1, .func (.func 82) #[] #[.pointer (some ⟨w.heap.size + 1 + 1 + 1, 0, none⟩)], .int .i64 (y.1 : Int), .agg #[.int .i64 y.2.1, .string y.2.2], undef, undef, undef, undef, undef, undef, undef, undef, undef, undef, undef], defers := [] })
    (fun y a' _ X Y row hs hg hr => by obtain ⟨Bx, e1, e2, e3⟩ := hs; exact ⟨Bx, e1, block_own (β := Unit) Bx 103 _ () X Y row e2 hg (fun r e => (hr r e).2), e3⟩)
    ?assign ?body ?done ?stop
  case assign =>
    rintro l pre y W K ⟨⟨⟨⟨hp, bR1⟩, bA1⟩, bD1⟩, hB1⟩ hK
    dsimp only [encB]
    gi_wp2
    exact hK _ _ ((KeepsOthers.alloc _ _).from _) ((Below.refl _ W).alloc hB1.size _) ⟨⟨⟨⟨hp, bR1.alloc _⟩, bA1.alloc _⟩, bD1.alloc _⟩, hB1.alloc hB1.size _⟩ ⟨W.heap.size, by have := hB1.size; omega, Box.new W _ 103, rfl⟩
  case body =>
    rintro l pre y a' W hl ⟨r, hr⟩ ⟨⟨⟨⟨hp, bR1⟩, bA1⟩, bD1⟩, hB1⟩ ⟨Bx, hBx, bX, rfl⟩ hlt
    have cX0 : W.cell? ⟨Bx, 0, none⟩ = some (.int .i64 y.2.1) := bX.cell 0
    have cX1 : W.cell? ⟨Bx, 1, none⟩ = some (.string y.2.2) := bX.cell 1
    have cA := bA1.cell
    have cR := bR1.cell
    have fR := bR1.frozen
    by_cases he : y.2.1 = x
    · have hbe : (y.2.1 == x) = true := by simpa using he
      have hfy := fdB_yes hp he
      have hvy : vlB (pre ++ [y]) x = y.2.2 := by unfold vlB; rw [hfy]; rfl
      clear he
      gi_wp2
      exact ⟨(KeepsOthers.setCell _ _ _).from _, ⟨⟨rfl, by rw [hfy]; rfl⟩, by rw [hvy]; exact bR1.set _⟩, (hB0.trans (hB1.mono (by omega))).setCell (p := ⟨w.heap.size + 1 + 1, 0, none⟩) (by simp; omega) _⟩
    · have hbe : (y.2.1 == x) = false := by simpa using he
      have hfy := fdB_no hp he
      clear he
      gi_wp2
      exact ⟨KeepsFrom.refl _ _, Below.refl _ _, ⟨⟨⟨hfy, bR1⟩, bA1⟩, bD1⟩, hB1⟩
  case done =>
    rintro D zs W hD rfl ⟨⟨⟨⟨hp, bR1⟩, bA1⟩, bD1⟩, hB1⟩ hK
    have cR := bR1.cell
    have fR := bR1.frozen
    have cA := bA1.cell
    have cD : W.cell? ⟨w.heap.size, 0, none⟩ = some (.slice a0 n0 c0) := bD1.cell 0
    have hBw : Below w.heap.size w W := hB0.trans (hB1.mono (by omega))
    obtain ⟨b0, off0, rfl, hbl, hc⟩ := r0.2 (by omega)
    obtain ⟨s, hs⟩ : ∃ s, s = S.getD j ⟨#[]⟩ := ⟨_, rfl⟩
    have cS : W.cell? ⟨b0, off0 + j, none⟩ = some (.string s) := by rw [hBw.cell (p := ⟨b0, off0 + j, none⟩) hbl, hc j hj, hs]; exact map_get _ _ _ _ (by omega)
    have hres : rdS S C j = s := by rw [hs]; exact rdS_miss (by rw [l1, ← HXJ.out]; exact hp)
    have g1 : (0 : Int) ≤ (j : Int) := by omega
    have g2 : (j : Int) < (n0 : Int) := by omega
    have hxj := HXJ.out
    subst hxj
    clear hc hs
    gi_wp2
    have hK' := (KeepsOthers.setCell W ⟨w.heap.size + 1 + 1, 0, none⟩ (.string s)).same D _ hK rfl
    refine ⟨by simp, .inl ⟨_, _, rfl, run_takeDeferred hK', ?_⟩⟩
    have hc5 := cell_kept (bR1.set (.string s)).cell (grownBy_putObj' _ D (.deferred none)) (fun r e => by cases e; exact ⟨_, hK', rfl⟩)
    refine ⟨.string s, ?_, by first | rfl | rw [hres], (hBw.setCell (p := ⟨w.heap.size + 1 + 1, 0, none⟩) (by simp; omega) _).trans (belowK_b (w := w) (Nat.le_refl _) _ D _ _ (by omega) hK' rfl rfl)⟩
    simp [results, Tryd.f51, go_sem, hc5]
  case stop =>
    rintro D c pre W hD ⟨k, hk, rfl⟩ ⟨⟨⟨rfl, hf⟩, bR1⟩, hB1⟩ hK
    obtain ⟨y, hy⟩ := Option.isSome_iff_exists.1 hf
    have hres : rdS S C j = vlB (bkL C n1 k) x := by
      have h' : vlB (bkL C n1 k) x = y.2.2 := by unfold vlB; rw [hy]; rfl
      rw [h']
      exact rdS_hit (k := k) (by omega) (by rw [l1, ← HXJ.out]; exact hy)
    gi_wp2
    refine ⟨by simp, .inl ⟨_, _, rfl, run_takeDeferred hK, ?_⟩⟩
    have hc5 := cell_kept bR1.cell (grownBy_putObj' _ D (.deferred none)) (fun r e => by cases e; exact ⟨_, hK, rfl⟩)
    refine ⟨.string (vlB (bkL C n1 k) x), ?_, by first | rfl | rw [hres], hB1.trans (belowK_b (w := w) (Nat.le_refl _) W D _ _ (by omega) hK rfl rfl)⟩
    simp [results, Tryd.f51, go_sem, hc5]
theorem c_readSector (a0 : Option Addr) (n0 c0 : Nat) (a1 : Option Addr) (n1 c1 : Nat) (b : Bool) (a2 : Option Addr) (n2 c2 : Nat) (S : List ByteArray) (C : List PP) (j : Nat) (w : World)
    (r0 : RdV w a0 n0 (S.map Value.string)) (r1 : RdP w a1 n1 C) (hj : j < n0) (hn0 : n0 ≤ 1048576) (hn1 : n1 ≤ 1048576) :
    Calls Tryd.prog 51 #[.agg #[.slice a0 n0 c0, .slice a1 n1 c1, .bool b, .slice a2 n2 c2], .int .i64 (j : Int)] w fun e W' => e = .returned (.string (rdS S C j)) ∧ Below w.heap.size w W' :=
  (callsIn_wide (n := 6)).1 (rs_in Fence.wide 6 trivial trivial trivial rfl (by omega) a0 n0 c0 a1 n1 c1 b a2 n2 c2 S C j (j : Int) rfl w r0 r1 hj hn0 hn1)

end Go.Proofs.YtcokbogicbdoaaaDoor
