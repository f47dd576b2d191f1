/-
  The walks of KeyBytes: the specification's own, and the program's.
-/
import Derived.Test.YtkfkhfagehcmiaaDoorKb
namespace Go.Proofs.YtkfkhfagehcmiaaDoor
open Go Go.RowKit

set_option maxRecDepth 100000 in
set_option maxHeartbeats 2000000 in
theorem c_specK (a : Option Addr) (n cap : Nat) (vs : List VV) (w : World) (hr : RdC w a n vs) (hn : n ≤ 1048576) (hs : ∀ v ∈ vs, v.2.2.size ≤ 1048576) :
    Calls Tryd.prog 11 #[.slice a n cap] w (AnsK w vs n) := by
  have HR : Hid (RdC w a n vs) := hr
  clear hr
  by_cases h1 : 4096 < n
  · have E : Hid (_ ∧ _) := errK2 (vs := vs) h1
    go_enter Tryd.func11, Tryd.ntmps11
    go_wp2
    go_ret2
    exact ansK_empty E.out (Below.refl _ _)
  · go_enter Tryd.func11, Tryd.ntmps11
    go_wp2_with fail
    refine (c44 a n cap vs w HR.out hn hs).mono ?_
    rintro e w1 ⟨rfl, hb1⟩
    have HB1 : Hid (Below w.heap.size w w1) := hb1
    clear hb1
    cases ho : allV vs n
    · have E : Hid (_ ∧ _) := errK1 (vs := vs) h1 ho
      go_wp2
      go_ret2
      exact ansK_empty E.out HB1.out
    · have E : Hid (_ ∧ _) := errK0 (vs := vs) h1 ho
      go_wp2_with fail
      refine (c45 a n cap vs w1 (HR.out.below HB1.out) (by omega) ho).mono ?_
      rintro e w2 ⟨v, rfl, hown, hb⟩
      have HW : Hid (w2.ownsRow w.heap.size 5 1 v (kbZ vs n).length ((kbZ vs n).map (Value.int .u8)) ∧ Below w.heap.size w w2) := by
        refine ⟨?_, HB1.out.trans (hb.mono HB1.out.size)⟩
        refine ⟨hown.1, ?_⟩
        rcases hown.2 with h0 | ⟨g, c, cur, x1, x2, x3⟩
        · exact .inl h0
        · exact .inr ⟨g, c, cur, x1, Nat.le_trans HB1.out.size x2, x3⟩
      clear hown hb ho
      go_wp2
      go_ret2
      exact ansK_own E.out HW.out.1 HW.out.2


theorem c_high (u : Int) (w : World) (h0 : 0 ≤ u) (h1 : u < 4294967296) :
    Calls Tryd.prog 43 #[.int .u32 u] w fun e w' => e = .returned (.agg #[.int .u8 (u / 16777216), .int .u8 (u / 65536 % 256), .int .u8 (u / 256 % 256), .int .u8 (u % 256)]) ∧ Below w.heap.size w w' := by
  go_enter Tryd.func43, Tryd.ntmps43
  go_wp2
  exact bodyPost_ret (v := .agg #[.int .u8 (u / 16777216), .int .u8 (u / 65536 % 256), .int .u8 (u / 256 % 256), .int .u8 (u % 256)]) (by simp [results, Tryd.results43, go_sem]) rfl ⟨rfl, (Below.refl _ _).alloc (Nat.le_refl _) _⟩
set_option maxRecDepth 100000 in
set_option maxHeartbeats 2000000 in
theorem c55 (n : Int) (w : World) (h0 : -1000000000 ≤ n) (h1 : n ≤ 1000000000) :
    Calls Tryd.prog 33 #[.int .i64 n] w fun e w' => e = .returned (.agg #[.int .u8 ((n + 1000000000) / 16777216), .int .u8 ((n + 1000000000) / 65536 % 256), .int .u8 ((n + 1000000000) / 256 % 256), .int .u8 ((n + 1000000000) % 256)]) ∧ Below w.heap.size w w' := by
  obtain ⟨V, hV⟩ : ∃ V, w.alloc (.cells #[.int .u8 0, .int .u8 0, .int .u8 0, .int .u8 0] 60) = V := ⟨_, rfl⟩
  have HB : Hid (Below w.heap.size w V) := by unfold Hid; rw [← hV]; exact (Below.refl _ _).alloc (Nat.le_refl _) _
  have hnew : V.heap[w.heap.size]? = some (.cells #[.int .u8 0, .int .u8 0, .int .u8 0, .int .u8 0] 60) := by rw [← hV]; show (w.heap.push _)[w.heap.size]? = _; simp
  have hsz : w.heap.size < V.heap.size := by rw [← hV]; simp
  go_enter Tryd.func33, Tryd.ntmps33
  go_wp2_with fail
  refine (c_high (n + 1000000000) V (by omega) (by omega)).mono ?_
  rintro e w1 ⟨rfl, hb⟩
  have HB1 : Hid (Below w.heap.size w w1) := HB.out.trans (hb.mono HB.out.size)
  have hn1 : w1.heap[w.heap.size]? = some (.cells #[.int .u8 0, .int .u8 0, .int .u8 0, .int .u8 0] 60) := (hb.block _ hsz).trans hnew
  have e0 : w1.cell? ⟨w.heap.size, 0, none⟩ = some (.int .u8 0) := by simp [World.cell?, hn1]
  have e1 : w1.cell? ⟨w.heap.size, 1, none⟩ = some (.int .u8 0) := by simp [World.cell?, hn1]
  have e2 : w1.cell? ⟨w.heap.size, 2, none⟩ = some (.int .u8 0) := by simp [World.cell?, hn1]
  have e3 : w1.cell? ⟨w.heap.size, 3, none⟩ = some (.int .u8 0) := by simp [World.cell?, hn1]
  have g0 : w1.frozen? ⟨w.heap.size, 0, none⟩ = false := by simp [World.frozen?, hn1]
  have g1 : w1.frozen? ⟨w.heap.size, 1, none⟩ = false := by simp [World.frozen?, hn1]
  have g2 : w1.frozen? ⟨w.heap.size, 2, none⟩ = false := by simp [World.frozen?, hn1]
  have g3 : w1.frozen? ⟨w.heap.size, 3, none⟩ = false := by simp [World.frozen?, hn1]
  have H0 : Hid (-1000000000 ≤ n ∧ n ≤ 1000000000) := ⟨h0, h1⟩
  clear hb HB hV hnew hsz hn1 h0 h1
  go_wp2
  exact bodyPost_ret (v := .agg #[.int .u8 ((n + 1000000000) / 16777216), .int .u8 ((n + 1000000000) / 65536 % 256), .int .u8 ((n + 1000000000) / 256 % 256), .int .u8 ((n + 1000000000) % 256)]) (by simp [results, Tryd.results33, go_sem, e0, e1, e2, e3]) rfl ⟨rfl, (((HB1.out.setCell (Nat.le_refl _) _).setCell (Nat.le_refl _) _).setCell (Nat.le_refl _) _).setCell (Nat.le_refl _) _⟩

theorem new1 (w : World) (o : Obj) (x : Int) : ∀ j u, [Value.int .u8 x][j]? = some u → ((w.alloc o).alloc (.cells #[.int .u8 x] 5)).cell? ((⟨w.heap.size + 1, 0, none⟩ : Addr).add j) = some u := fun j u h => by
  have := cell_one_new (w.alloc o) (Value.int .u8 x) 5 j u h
  rwa [show (w.alloc o).heap.size = w.heap.size + 1 by simp] at this

/-- The boxed value behind an append to a slice of the caller's own. -/
theorem box3k {w w2 : World} {base L : Nat} {v : Value} {xs : List Value} {o' : Obj} {k n : Int} {t : ByteArray} {row : Option Nat} (hown : w.ownsRow base 5 1 v L xs) (hg : ((w.alloc (.cells #[.int .i64 k, .int .i64 n, .string t] 27)).alloc o').grownBy w2 row) (hrow : row = v.ownBlock) :
    w2.cell? ⟨w.heap.size, 0, none⟩ = some (.int .i64 k) ∧ w2.cell? ⟨w.heap.size, 1, none⟩ = some (.int .i64 n) ∧ w2.cell? ⟨w.heap.size, 2, none⟩ = some (.string t) := by
  have hne : some w.heap.size ≠ row := by
    rw [hrow]
    intro e
    have := (hown.lt w.heap.size e.symm).2
    omega
  refine ⟨?_, ?_, ?_⟩
  all_goals
    rw [hg.cell_far _ (by simp; omega) hne]
    simp [go_sem]

theorem bcell {W w1 : World} (hb : Below W.heap.size W w1) : (∀ b o, b < W.heap.size → w1.cell? ⟨b, o, none⟩ = W.cell? ⟨b, o, none⟩) ∧ (∀ b o, b < W.heap.size → w1.frozen? ⟨b, o, none⟩ = W.frozen? ⟨b, o, none⟩) :=
  ⟨fun b o h => hb.cell (p := ⟨b, o, none⟩) h, fun b o h => hb.frozen (p := ⟨b, o, none⟩) h⟩

/-- A value's bytes behind what a slice of the caller's own holds. -/
def AnsA (base : Nat) (w : World) (L : Nat) (xs : List Value) (v : VV) (e : Ending) (w' : World) : Prop :=
  ∃ a cap, e = .returned (.slice a (L + (keyZ v).length) cap) ∧ w'.ownsRow base 5 1 (.slice a (L + (keyZ v).length) cap) (L + (keyZ v).length) (xs ++ (keyZ v).map (Value.int .u8)) ∧ Below base w w'

set_option maxRecDepth 100000 in
set_option maxHeartbeats 4000000 in
theorem c46 (base : Nat) (av : Option Addr) (L cv : Nat) (xs : List Value) (v : VV) (w : World) (hown : w.ownsRow base 5 1 (.slice av L cv) L xs) (hbase : base ≤ w.heap.size) (hL : L ≤ 1000000) (hv : okV v = true) :
    Calls Tryd.prog 22 #[.slice av L cv, .agg #[.int .i64 v.1, .int .i64 v.2.1, .string v.2.2]] w (AnsA base w L xs v) := by
  obtain ⟨k, n, t⟩ := v
  obtain ⟨i0, hi, hz0, hz1, hz2⟩ := info_parts infoB
  rcases okV_kind hv with h0 | ⟨h1, hn1, hn2⟩ | ⟨h2, ht⟩
  · simp only at h0
    subst h0
    have hownA : (w.alloc (.cells #[.int .i64 0, .int .i64 n, .string t] 27)).ownsRow base 5 1 (.slice av L cv) L xs := hown.alloc _
    have hbA : Below base w (w.alloc (.cells #[.int .i64 0, .int .i64 n, .string t] 27)) := (Below.refl _ _).alloc hbase _
    go_enter Tryd.func22, Tryd.ntmps22
    go_wp2_with (at_builtin; refine wpList_append_lies _ rfl (.tmp 6) (.tmp 11) 30 rfl base 5 i0 (.int .u8 0) 1 1 Tryd.underlying30 hi hz0 hz1 hz2 rfl (by omega) (.slice av L cv) L xs rfl (hownA.alloc _) ⟨w.heap.size + 1, 0, none⟩ 1 1 [.int .u8 1] rfl rfl (new1 w _ 1) (by intro u hu; simp at hu; subst hu; rfl) (by omega) (by unfold maxLen; omega) (by omega) (by simp; omega) (w.heap.size + 2) (by simp) ?_; intro g cp w2 hown2 hgr2 hat2 hlt2; (have hbx : w2.cell? ⟨w.heap.size, 0, none⟩ = some (.int .i64 0) ∧ w2.cell? ⟨w.heap.size, 1, none⟩ = some (.int .i64 n) ∧ w2.cell? ⟨w.heap.size, 2, none⟩ = some (.string t) := box3k hown hgr2 rfl); (obtain ⟨bx0, bx1, bx2⟩ := hbx))
    go_ret
    exact ⟨some ⟨g, 0, none⟩, cp, rfl, hown2, (hbA.alloc (by simp; omega) _).grown hgr2 (by simp; omega) (fun j hj => (hown.lt j hj).1)⟩
  · simp only at h1 hn1 hn2
    subst h1
    have hownA : (w.alloc (.cells #[.int .i64 1, .int .i64 n, .string t] 27)).ownsRow base 5 1 (.slice av L cv) L xs := hown.alloc _
    have hbA : Below base w (w.alloc (.cells #[.int .i64 1, .int .i64 n, .string t] 27)) := (Below.refl _ _).alloc hbase _
    have E1 : Hid ((keyZ (1, n, t)).length = 1 + 4) := rfl
    have E2 : Hid ((keyZ (1, n, t)).map (Value.int .u8) = [Value.int .u8 2] ++ [.int .u8 ((n + 1000000000) / 16777216), .int .u8 ((n + 1000000000) / 65536 % 256), .int .u8 ((n + 1000000000) / 256 % 256), .int .u8 ((n + 1000000000) % 256)]) := rfl
    go_enter Tryd.func22, Tryd.ntmps22
    go_wp2_with (at_builtin; refine wpList_append_lies _ rfl (.tmp 6) (.tmp 11) 30 rfl base 5 i0 (.int .u8 0) 1 1 Tryd.underlying30 hi hz0 hz1 hz2 rfl (by omega) (.slice av L cv) L xs rfl (hownA.alloc _) ⟨w.heap.size + 1, 0, none⟩ 1 1 [.int .u8 2] rfl rfl (new1 w _ 2) (by intro u hu; simp at hu; subst hu; rfl) (by omega) (by unfold maxLen; omega) (by omega) (by simp; omega) (w.heap.size + 2) (by simp) ?_; intro g cp w2 hown2 hgr2 hat2 hlt2; (have hbx : w2.cell? ⟨w.heap.size, 0, none⟩ = some (.int .i64 1) ∧ w2.cell? ⟨w.heap.size, 1, none⟩ = some (.int .i64 n) ∧ w2.cell? ⟨w.heap.size, 2, none⟩ = some (.string t) := box3k hown hgr2 rfl); (obtain ⟨bx0, bx1, bx2⟩ := hbx))
    refine (c55 n w2 hn1 hn2).mono ?_
    rintro e w3 ⟨rfl, hb3⟩
    have hown3 := own_below hown2 hb3
    have hb2 : Below base w w2 := (hbA.alloc (by simp; omega) _).grown hgr2 (by simp; omega) (fun j hj => (hown.lt j hj).1)
    have hs2 : w.heap.size ≤ w2.heap.size := hb2.size
    have hs3 : w2.heap.size ≤ w3.heap.size := hb3.size
    have hbb : Below base w w3 := hb2.trans (hb3.mono (by omega))
    have c0 := far6 hb3 bx0
    have c1 := far6 hb3 bx1
    have c2 := far6 hb3 bx2
    clear bx0 bx1 bx2 hb3 hgr2 hat2 hlt2 hown2
    go_wp2_with (at_builtin; refine wpList_append_lies _ rfl (.tmp 20) (.tmp 21) 30 rfl base 5 i0 (.int .u8 0) 1 1 Tryd.underlying30 hi hz0 hz1 hz2 rfl (by omega) (.slice (some ⟨g, 0, none⟩) (L + 1) cp) (L + 1) (xs ++ [.int .u8 2]) rfl (hown3.alloc _) ⟨w3.heap.size, 0, none⟩ 4 4 [.int .u8 ((n + 1000000000) / 16777216), .int .u8 ((n + 1000000000) / 65536 % 256), .int .u8 ((n + 1000000000) / 256 % 256), .int .u8 ((n + 1000000000) % 256)] rfl rfl (fun j u h => World.news_of_block (heap_alloc_new w3 _) j u h) (by intro u hu; simp at hu; rcases hu with rfl | rfl | rfl | rfl <;> rfl) (by omega) (by unfold maxLen; omega) (by omega) (by simp; omega) (w3.heap.size + 1) (by simp) ?_; intro g5 cp5 w5 hown5 hgr5 hat5 hlt5)
    go_ret
    have hb5 : Below base w w5 := (hbb.alloc (by omega) _).grown hgr5 (by simp; omega) (fun j hj => (hown3.lt j hj).1)
    refine ⟨some ⟨g5, 0, none⟩, cp5, ?_, ?_, hb5⟩
    · rw [E1.out]; rfl
    · rw [E1.out, E2.out]
      simp only [← Nat.add_assoc, ← List.append_assoc] at hown5 ⊢
      exact hown5
  · simp only at h2 ht
    subst h2
    have hownA : (w.alloc (.cells #[.int .i64 2, .int .i64 n, .string t] 27)).ownsRow base 5 1 (.slice av L cv) L xs := hown.alloc _
    have hbA : Below base w (w.alloc (.cells #[.int .i64 2, .int .i64 n, .string t] 27)) := (Below.refl _ _).alloc hbase _
    have E1 : Hid ((keyZ (2, n, t)).length = 1 + t.size + 1) := by unfold Hid; show (3 :: (strK t ++ [0])).length = _; simp [strK_len]; omega
    have E2 : Hid ((keyZ (2, n, t)).map (Value.int .u8) = [Value.int .u8 3] ++ Lib.strCells t ++ [Value.int .u8 0]) := by unfold Hid; show (3 :: (strK t ++ [0])).map _ = _; simp [strK_cells]
    go_enter Tryd.func22, Tryd.ntmps22
    go_wp2_with (first
      | (at_builtin; refine wpList_append_lies _ rfl (.tmp 6) (.tmp 11) 30 rfl base 5 i0 (.int .u8 0) 1 1 Tryd.underlying30 hi hz0 hz1 hz2 rfl (by omega) (.slice av L cv) L xs rfl (hownA.alloc _) ⟨w.heap.size + 1, 0, none⟩ 1 1 [.int .u8 3] rfl rfl (new1 w _ 3) (by intro u hu; simp at hu; subst hu; rfl) (by omega) (by unfold maxLen; omega) (by omega) (by simp; omega) (w.heap.size + 2) (by simp) ?_; intro g cp w2 hown2 hgr2 hat2 hlt2; (have hbx : w2.cell? ⟨w.heap.size, 0, none⟩ = some (.int .i64 2) ∧ w2.cell? ⟨w.heap.size, 1, none⟩ = some (.int .i64 n) ∧ w2.cell? ⟨w.heap.size, 2, none⟩ = some (.string t) := box3k hown hgr2 rfl); (obtain ⟨bx0, bx1, bx2⟩ := hbx))
      | (at_builtin; refine Lib.wpList_append_own_string _ rfl (.tmp 25) (.tmp 27) 30 9 rfl base 5 i0 Tryd.underlying30 Tryd.underlying9 hi hz0 hz1 hz2 (.slice (some ⟨g, 0, none⟩) (L + 1) cp) (L + 1) (xs ++ [.int .u8 3]) rfl hown2 t rfl (by unfold maxLen; omega) (by omega) (by have := hgr2.size; simp at this; omega) ?_; intro v3 w3 hown3 hgr3 _; (obtain ⟨a3, c3, hv3⟩ := own_slice2 hown3; subst hv3))
      | (at_builtin; refine wpList_append_lies _ rfl (.tmp 29) (.tmp 30) 30 rfl base 5 i0 (.int .u8 0) 1 1 Tryd.underlying30 hi hz0 hz1 hz2 rfl (by omega) (.slice a3 (L + 1 + t.size) c3) (L + 1 + t.size) (xs ++ [.int .u8 3] ++ Lib.strCells t) rfl (hown3.alloc _) ⟨w3.heap.size, 0, none⟩ 1 1 [.int .u8 0] rfl rfl (cell_one_new w3 _ _) (by intro u hu; simp at hu; subst hu; rfl) (by omega) (by unfold maxLen; omega) (by omega) (by have := hgr2.size; have := hgr3.size; simp at *; omega) (w3.heap.size + 1) (by simp) ?_; intro g4 cp4 w4 hown4 hgr4 hat4 hlt4))
    go_ret
    have hb2 : Below base w w2 := (hbA.alloc (by simp; omega) _).grown hgr2 (by simp; omega) (fun j hj => (hown.lt j hj).1)
    have hb3 : Below base w w3 := hb2.grown hgr3 (Nat.le_trans hbase hb2.size) (fun j hj => (hown2.lt j hj).1)
    have hb4 : Below base w w4 := (hb3.alloc (Nat.le_trans hbase hb3.size) _).grown hgr4 (by have := hb3.size; simp; omega) (fun j hj => (hown3.lt j hj).1)
    refine ⟨some ⟨g4, 0, none⟩, cp4, ?_, ?_, hb4⟩
    · rw [E1.out, show L + (1 + t.size + 1) = L + 1 + t.size + 1 by omega]; rfl
    · rw [E1.out, E2.out]
      simp only [← Nat.add_assoc, ← List.append_assoc] at hown4 ⊢
      exact hown4

set_option maxRecDepth 100000 in
set_option maxHeartbeats 2000000 in
theorem c_implK (a : Option Addr) (n cap : Nat) (vs : List VV) (w : World) (hr : RdC w a n vs) (hn : n ≤ 1048576) (hs : ∀ v ∈ vs, v.2.2.size ≤ 1048576) :
    Calls Tryd.prog 10 #[.slice a n cap] w (AnsK w vs n) := by
  obtain ⟨hl, hcs⟩ := hr
  by_cases h1 : 4096 < n
  · have E : Hid (_ ∧ _) := errK2 (vs := vs) h1
    go_enter Tryd.func10, Tryd.ntmps10
    go_wp2
    go_ret2
    exact ansK_nil E.out (Below.refl _ _)
  · go_enter Tryd.func10, Tryd.ntmps10
    go_wp2
    go_loopw [4, 12] (fun v i wr => ∃ k : Nat, k ≤ n ∧ i = .int .i64 k ∧ Hid (allV vs k = true) ∧ wr.ownsRow w.heap.size 5 1 v (kbZ vs k).length ((kbZ vs k).map (Value.int .u8)) ∧ Below w.heap.size w wr) (fun _ i _ => n - (intOf i).toNat)
    case atStart => exact ⟨0, by omega, rfl, rfl, World.ownsRow_nil _ _ _ _, Below.refl _ _⟩
    case round =>
      obtain ⟨k, hk, rfl, HA, hown, hb⟩ := hrel
      by_cases hlt : k < n
      · obtain ⟨b, off, rfl, hbl, hc⟩ := hcs (by omega)
        obtain ⟨⟨vk, vn, vt⟩, hv⟩ : ∃ v, v = vs.getD k dV := ⟨_, rfl⟩
        obtain ⟨d0, d1, d2⟩ := hc k hlt
        rw [← hv] at d0 d1 d2
        have e0 : wr.cell? ⟨b, off + k * 3, none⟩ = some (.int .i64 vk) := by rw [hb.cell (p := ⟨b, off + k * 3, none⟩) hbl, d0]
        have e1 : wr.cell? ⟨b, off + k * 3 + 1, none⟩ = some (.int .i64 vn) := by rw [hb.cell (p := ⟨b, off + k * 3 + 1, none⟩) hbl, d1]
        have e2 : wr.cell? ⟨b, off + k * 3 + 2, none⟩ = some (.string vt) := by rw [hb.cell (p := ⟨b, off + k * 3 + 2, none⟩) hbl, d2]
        have hvs : vt.size ≤ maxLen := by
          have hk' : k < vs.length := by omega
          have := hs (vs.getD k dV) (by rw [List.getD_eq_getElem?_getD, List.getElem?_eq_getElem hk']; exact List.getElem_mem hk')
          rw [← hv] at this
          unfold maxLen
          simp only at this
          omega
        have HK : Hid (allV vs (k + 1) = (allV vs k && okV (vk, vn, vt))) := by rw [hv]; exact allV_step (by omega)
        have HZ : Hid (kbZ vs (k + 1) = kbZ vs k ++ keyZ (vk, vn, vt)) := by rw [hv]; exact kbZ_step (by omega)
        have hlen := kbZ_len k (by omega) HA.out
        have hlen2 : (kbZ vs k).length ≤ 50000 := by omega
        obtain ⟨av, cv, hv2⟩ := own_slice2 hown
        subst hv2
        have hbs : w.heap.size ≤ wr.heap.size := hb.size
        clear hc hcs hv hs d0 d1 d2 hlen
        go_wp2_with fail
        refine (c_implOK _ _ _ _ hvs).mono ?_
        rintro e w1 ⟨rfl, hb1⟩
        obtain ⟨hc1, hf1⟩ := bcell hb1
        have hown1 := own_below (hown.alloc (.cells #[.int .i64 vk, .int .i64 vn, .string vt] 27)) hb1
        have hbb : Below w.heap.size w w1 := (hb.alloc hbs _).trans (hb1.mono (by simp; omega))
        clear e0 e1 e2 hb1
        cases ho : valB vk vn vt
        · have E : Hid (_ ∧ _) := errK1 (vs := vs) h1 (allV_no (k := k + 1) (by omega) (by rw [HK.out]; unfold okV; simp only; rw [ho]; simp))
          go_wp2
          go_ret2
          exact ansK_nil E.out hbb
        · have HOV : Hid (okV (vk, vn, vt) = true) := ho
          have E : Hid (allV vs (k + 1) = true) := by unfold Hid; rw [HK.out, HA.out, HOV.out]; rfl
          go_wp2_with fail
          refine (c46 w.heap.size av (kbZ vs k).length cv _ (vk, vn, vt) w1 hown1 hbb.size (by omega) HOV.out).mono ?_
          rintro e w2 ⟨a2, c2, rfl, hown2, hb2⟩
          have hb3 : Below w.heap.size w w2 := hbb.trans hb2
          have hown3 : w2.ownsRow w.heap.size 5 1 (.slice a2 ((kbZ vs k).length + (keyZ (vk, vn, vt)).length) c2) (kbZ vs (k + 1)).length ((kbZ vs (k + 1)).map (Value.int .u8)) := by
            rw [HZ.out, List.length_append, List.map_append]; exact hown2
          clear hown2 hown1 hc1 hf1 hown hbb hb2 ho
          go_wp2
          go_roundw
          case rel => exact ⟨k + 1, by omega, by go_num, E, hown3, hb3⟩
          case measure => simp [intOf]; omega
      · have e : k = n := by omega
        subst e
        have E : Hid (_ ∧ _) := errK0 (vs := vs) h1 HA.out
        go_wp2
        go_ret2
        exact ansK_own E.out hown hb
end Go.Proofs.YtkfkhfagehcmiaaDoor
