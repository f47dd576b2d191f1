/-
  Frames: marks.
-/
import Derived.Test.YtkpopingbbaomaaGreatDoorZzak
import Derived.Test.YtkpopingbbaomaaGreatDoorYtcq
namespace Go.Proofs.YtkpopingbbaomaaGreatDoor
open Go Go.RowKit
attribute [local go_sem ↓] Go.wp_at_zero Go.wp_at_succ

/-- A frame that is marked from k on, and where the next one begins. -/
def fMk1 (k : Nat) (f : FF) : FF := ⟨(k : Int), ⟨(k : Int) + 1, f.h.a, f.h.n, f.h.c⟩, ⟨(k : Int) + 1, marksT (k + 2) f.h.n⟩, decide (((k : Int) + 2 + (f.h.n : Int)) % 3 = 0), (k : Int) + 2 + (f.h.n : Int) + 1⟩
def fNxt (k : Nat) (f : FF) : Nat := k + 4 + f.h.n
def fMks : Nat → List FF → List FF
  | _, [] => []
  | k, f :: fs => fMk1 k f :: fMks (fNxt k f) fs
def fEnd : Nat → List FF → Nat
  | k, [] => k
  | k, f :: fs => fEnd (fNxt k f) fs
/-- The first i are marked. -/
def fMix (k : Nat) (F : List FF) (i : Nat) : List FF := fMks k (F.take i) ++ F.drop i
theorem fMks_len : ∀ (F : List FF) (k : Nat), (fMks k F).length = F.length
  | [], _ => rfl
  | f :: F, k => by rw [fMks, List.length_cons, fMks_len F, List.length_cons]
theorem fMix_zero (k : Nat) (F : List FF) : fMix k F 0 = F := by simp [fMix, fMks]
theorem fMix_len (k : Nat) (F : List FF) (i : Nat) (h : i ≤ F.length) : (fMix k F i).length = F.length := by
  unfold fMix; rw [List.length_append, fMks_len, List.length_take, List.length_drop]; omega
theorem fMix_full (k : Nat) (F : List FF) (i : Nat) (h : F.length ≤ i) : fMix k F i = fMks k F := by
  unfold fMix; rw [List.take_of_length_le h, List.drop_eq_nil_of_le h, List.append_nil]
theorem fMix_at : ∀ (F : List FF) (k i : Nat), i < F.length → (fMix k F i).getD i zeroF = F.getD i zeroF
  | [], _, _, h => absurd h (by simp)
  | f :: F, k, 0, _ => by simp [fMix, fMks]
  | f :: F, k, i + 1, h => by
    have ih := fMix_at F (fNxt k f) i (by simpa using h)
    show (fMk1 k f :: fMix (fNxt k f) F i).getD (i + 1) zeroF = _
    simpa using ih
theorem fMix_step : ∀ (F : List FF) (k i : Nat), i < F.length → (fMix k F i).set i (fMk1 (fEnd k (F.take i)) (F.getD i zeroF)) = fMix k F (i + 1)
  | [], _, _, h => absurd h (by simp)
  | f :: F, k, 0, _ => by simp [fMix, fMks, fEnd]
  | f :: F, k, i + 1, h => by
    have ih := fMix_step F (fNxt k f) i (by simpa using h)
    show (fMk1 k f :: fMix (fNxt k f) F i).set (i + 1) (fMk1 (fEnd (fNxt k f) (F.take i)) ((f :: F).getD (i + 1) zeroF)) = fMk1 k f :: fMix (fNxt k f) F (i + 1)
    rw [List.set_cons_succ, ← ih]
    simp
theorem fEnd_step : ∀ (F : List FF) (k i : Nat), i < F.length → fEnd k (F.take (i + 1)) = fNxt (fEnd k (F.take i)) (F.getD i zeroF)
  | [], _, _, h => absurd h (by simp)
  | f :: F, k, 0, _ => by simp [fEnd]
  | f :: F, k, i + 1, h => by
    have ih := fEnd_step F (fNxt k f) i (by simpa using h)
    show fEnd (fNxt k f) (F.take (i + 1)) = fNxt (fEnd (fNxt k f) (F.take i)) ((f :: F).getD (i + 1) zeroF)
    rw [ih]
    simp
theorem fEnd_le : ∀ (F : List FF) (k : Nat), (∀ f ∈ F, f.h.n ≤ 1048576) → k ≤ fEnd k F ∧ fEnd k F ≤ k + F.length * 1048580
  | [], k, _ => by simp [fEnd]
  | f :: F, k, h => by
    have ih := fEnd_le F (fNxt k f) (fun g hg => h g (by simp [hg]))
    have h1 := h f (by simp)
    rw [fEnd, List.length_cons]
    unfold fNxt at *
    omega
/-- Marking leaves every slice where it was. -/
theorem fMix_h : ∀ (F : List FF) (k i j : Nat), ((fMix k F i).getD j zeroF).h.a = (F.getD j zeroF).h.a ∧ ((fMix k F i).getD j zeroF).h.n = (F.getD j zeroF).h.n ∧ ((fMix k F i).getD j zeroF).h.c = (F.getD j zeroF).h.c
  | [], k, i, j => by simp [fMix, fMks]
  | f :: F, k, 0, j => by rw [fMix_zero]; simp
  | f :: F, k, i + 1, 0 => by simp [fMix, fMks, fMk1]
  | f :: F, k, i + 1, j + 1 => by
    have ih := fMix_h F (fNxt k f) i j
    show ((fMk1 k f :: fMix (fNxt k f) F i).getD (j + 1) zeroF).h.a = _ ∧ ((fMk1 k f :: fMix (fNxt k f) F i).getD (j + 1) zeroF).h.n = _ ∧ ((fMk1 k f :: fMix (fNxt k f) F i).getD (j + 1) zeroF).h.c = _
    simpa using ih
/-- No two pages in one block. -/
def PwF (F : List FF) : Prop := ∀ i j, i < j → j < F.length → ∀ g, ob (F.getD i zeroF).h.a = some g → ob (F.getD j zeroF).h.a ≠ some g
theorem PwF.ne {F : List FF} (h : PwF F) {i j : Nat} (hi : i < F.length) (hj : j < F.length) (hne : i ≠ j) {g : Nat} (e : ob (F.getD i zeroF).h.a = some g) : ob (F.getD j zeroF).h.a ≠ some g := by
  rcases Nat.lt_or_ge i j with hl | hl
  · exact h i j hl hj g e
  · intro e2
    exact h j i (by omega) hi g e2 e
theorem set_same {L : List Value} {o : Nat} {v : Value} (h : L[o]? = some v) : L.set o v = L := by
  apply List.ext_getElem?
  intro i
  rw [List.getElem?_set]
  split
  · rename_i e; subst e
    split
    · exact h.symm
    · rename_i hl; rw [List.getElem?_eq_none (by omega)] at h; cases h
  · rfl
/-- All but the slice. -/
theorem setF_but {L : List Value} {o : Nat} {v : FF} (h : L[o + 2]? = some (.slice v.h.a v.h.n v.h.c)) : setF L o v = (((L.set o (.int .i64 v.no)).set (o + 1) (.int .i64 v.h.l)).set (o + 3) (.bool v.d)).set (o + 4) (.int .i64 v.fi) := by
  unfold setF
  rw [set_same (L := (L.set o (.int .i64 v.no)).set (o + 1) (.int .i64 v.h.l)) (by rw [List.getElem?_set_ne (by omega), List.getElem?_set_ne (by omega)]; exact h)]
theorem ret_int2 {a : Int} {b : Nat} (h : a = (b : Int)) : (Ending.returned (.int .i64 a) : Ending) = .returned (.int .i64 (b : Int)) := by rw [h]
set_option maxRecDepth 100000 in
set_option maxHeartbeats 8000000 in
theorem c_markF (b0 B E : Nat) (a : Option Addr) (n cap k0 : Nat) (F : List FF) (w : World) (hrow : w.ownsRow b0 142 5 (.slice a n cap) n (cellsF F)) (hob : ∀ g, ob a = some g → b0 ≤ g ∧ g < B) (hBE : B ≤ E) (hpg : OwnF w B E F) (hpw : PwF F) (h1 : 1 ≤ k0) (hk : k0 ≤ 4398046511104) (hn : n ≤ 1048576) (hs : ∀ f ∈ F, f.h.n ≤ 1048576) :
    Calls Tryz.prog 106 #[.slice a n cap, .int .i64 k0] w fun e w' => e = .returned (.int .i64 (fEnd k0 F : Nat)) ∧ w'.ownsRow b0 142 5 (.slice a n cap) n (cellsF (fMks k0 F)) ∧ OwnF w' B E (fMks k0 F) ∧ Inn b0 E w w' := by
  have hxl : F.length = n := by have := hrow.1; rw [cellsF_len] at this; omega
  rcases own_form hrow with ⟨hv, rfl⟩ | ⟨g, cap', hv, hg1, hg2⟩
  · simp only [Value.slice.injEq] at hv
    obtain ⟨rfl, _, rfl⟩ := hv
    obtain rfl : F = [] := List.eq_nil_of_length_eq_zero hxl
    go_enter Tryz.func106, Tryz.ntmps106
    go_wp2
    refine wp_loop_rounds 1 ?_
    rw [rounds_succ]
    go_wp2
    go_ret
    exact ⟨rfl, hrow, hpg, Inn.of_below (Below.refl _ _)⟩
  · simp only [Value.slice.injEq] at hv
    obtain ⟨rfl, _, rfl⟩ := hv
    have hgB := hob g rfl
    have HPG : Hid (OwnF w B E F) := hpg
    have HPW : Hid (PwF F) := hpw
    have HS : Hid (∀ f ∈ F, f.h.n ≤ 1048576) := hs
    clear hob hpg hpw hs
    go_enter Tryz.func106, Tryz.ntmps106
    go_wp2
    go_loopw [1, 5] (fun m i wr => ∃ q : Nat, q ≤ n ∧ i = .int .i64 q ∧ m = .int .i64 ((fEnd k0 (F.take q) : Nat) : Int) ∧ Hid (wr.ownsRow b0 142 5 (.slice (some ⟨g, 0, none⟩) n cap) n (cellsF (fMix k0 F q))) ∧ Hid (OwnF wr B E (fMix k0 F q)) ∧ Hid (Inn b0 E w wr)) (fun _ i _ => n - (intOf i).toNat)
    case atStart => exact ⟨0, by omega, rfl, rfl, by unfold Hid; rw [fMix_zero]; exact hrow, by unfold Hid; rw [fMix_zero]; exact HPG.out, Inn.of_below (Below.refl _ _)⟩
    case round =>
      obtain ⟨q, hq, rfl, rfl, HR, HO, HI⟩ := hrel
      clear hrow HPG
      by_cases hlt : q < n
      · have hml := fMix_len k0 F q (by omega)
        obtain ⟨f, hf⟩ : ∃ f, f = F.getD q zeroF := ⟨_, rfl⟩
        have hat := fMix_at F k0 q (by omega)
        rw [← hf] at hat
        obtain ⟨k, hkk⟩ : ∃ k, k = fEnd k0 (F.take q) := ⟨_, rfl⟩
        have hfm : f.h.n ≤ 1048576 := HS.out f (by rw [hf, List.getD_eq_getElem?_getD, List.getElem?_eq_getElem (by omega)]; simp)
        have hke := fEnd_le (F.take q) k0 (fun f hf => HS.out f (List.mem_of_mem_take hf))
        rw [← hkk, List.length_take, Nat.min_eq_left (by omega)] at hke
        have hke1 := hke.1
        have hke2 := hke.2
        obtain ⟨L, hL⟩ : ∃ L, L = cellsF (fMix k0 F q) := ⟨_, rfl⟩
        have hLl : L.length = n * 5 := by rw [hL, cellsF_len, hml]; omega
        have hc2 : L[q * 5 + 2]? = some (.slice f.h.a f.h.n f.h.c) := by
          rw [hL, cellsF_get _ q (by omega) 2 (by omega), hat]; rfl
        have HSET : Hid ((((L.set (q * 5) (.int .i64 (k : Int))).set (q * 5 + 1) (.int .i64 ((k : Int) + 1))).set (q * 5 + 3) (.bool (decide (((k : Int) + 2 + (f.h.n : Int)) % 3 = 0)))).set (q * 5 + 4) (.int .i64 ((k : Int) + 2 + (f.h.n : Int) + 1)) = cellsF (fMix k0 F (q + 1))) := by
          unfold Hid
          have hset := cellsF_set (fMix k0 F q) q (fMk1 k f) (by omega)
          rw [hkk, hf, fMix_step F k0 q (by omega), ← hkk, ← hf, ← hL, setF_but (v := fMk1 k f) hc2] at hset
          exact hset
        have HOq := HO.out q (by omega)
        rw [hat] at HOq
        have hown := HR.out
        rw [← hL] at hown
        obtain ⟨_, hrowP, hEw, hPB⟩ := HOq
        have HPN : Hid (∀ g', ob f.h.a = some g' → B ≤ g' ∧ g' < E) := hPB
        have hgw : g < wr.heap.size := (hown.lt g rfl).2
        -- the two stores ahead of the call
        obtain ⟨u0, q0⟩ : ∃ u, L[q * 5]? = some u := ⟨_, List.getElem?_eq_getElem (by omega)⟩
        have f0 := hown.cellAt (q * 5) (by omega)
        rw [q0] at f0
        have z0 := hown.frozenAt (q * 5)
        obtain ⟨u1, q1⟩ : ∃ u, L[q * 5 + 1]? = some u := ⟨_, List.getElem?_eq_getElem (by omega)⟩
        have f1 := hown.cellAt (q * 5 + 1) (by omega)
        rw [q1] at f1
        have z1 := hown.frozenAt (q * 5 + 1)
        have f2 := hown.cellAt (q * 5 + 2) (by omega)
        rw [hc2] at f2
        obtain ⟨s0, t0⟩ := hown.stored (q * 5) (.int .i64 (k : Int))
        obtain ⟨s1, t1⟩ := s0.stored (q * 5 + 1) (.int .i64 ((k : Int) + 1))
        obtain ⟨W, hW⟩ : ∃ W, (wr.setCell ⟨g, q * 5, none⟩ (.int .i64 (k : Int))).setCell ⟨g, q * 5 + 1, none⟩ (.int .i64 ((k : Int) + 1)) = W := ⟨_, rfl⟩
        rw [hW] at s1 t1
        have hsm : ∀ g', g' ≠ g → W.heap[g']? = wr.heap[g']? := fun g' hne => by rw [← hW, Below.heap_setCell _ _ _ _ hne, Below.heap_setCell _ _ _ _ hne]
        have hszW : W.heap.size = wr.heap.size := by rw [← hW]; simp
        have hrowP1 : W.ownsRow B 9 1 (.slice f.h.a f.h.n f.h.c) f.h.n (f.D.S.map Value.string) := own_same hrowP fun g' e => hsm g' (by rw [ob_slice] at e; have := hPB g' e; omega)
        have C : Hid (∀ x : Int, x = ((k + 2 : Nat) : Int) → Calls Tryz.prog 191 #[.slice f.h.a f.h.n f.h.c, .int .i64 x] W fun e w' => e = .returned (.int .i64 (k + 2 + f.h.n : Nat)) ∧ w'.ownsRow B 9 1 (.slice f.h.a f.h.n f.h.c) f.h.n (marksS (k + 2) f.h.n) ∧ W.grownBy w' (Value.slice f.h.a f.h.n f.h.c).ownBlock) := fun x hx => by subst hx; exact c_markS2 B (.slice f.h.a f.h.n f.h.c) f.h.n (k + 2) _ W hrowP1 (by omega) (by omega) (by omega)
        have f2' : W.cell? ⟨g, q * 5 + 2, none⟩ = some (.slice f.h.a f.h.n f.h.c) := by
          have := s1.cellAt (q * 5 + 2) (by omega)
          rw [List.getElem?_set_ne (by omega), List.getElem?_set_ne (by omega), hc2] at this
          exact this
        have HGW : Hid (Inn b0 E w W) := HI.out.trans (Inn.of_grown (t0.trans t1) (fun g' e => by have this : g' = g := (by simpa [Value.ownBlock] using e.symm); subst this; omega))
        have HS1 : Hid (W.ownsRow b0 142 5 (.slice (some ⟨g, 0, none⟩) n cap) n ((L.set (q * 5) (.int .i64 (k : Int))).set (q * 5 + 1) (.int .i64 ((k : Int) + 1)))) := s1
        have HOW : Hid (∀ j, j < F.length → j ≠ q → G.OwnG W B E ((fMix k0 F q).getD j zeroF).h ((fMix k0 F q).getD j zeroF).D) := fun j hj _ => (HO.out j (by omega)).same (by omega) fun g' h1' _ => hsm g' (by omega)
        have HFQ : Hid (ob f.h.a = ob (F.getD q zeroF).h.a) := by unfold Hid; rw [hf]
        have HSTEP : Hid ((fMix k0 F q).set q (fMk1 k f) = fMix k0 F (q + 1)) := by unfold Hid; rw [hkk, hf]; exact fMix_step F k0 q (by omega)
        have HEND : Hid (fEnd k0 (F.take (q + 1)) = k + 4 + f.h.n) := by unfold Hid; rw [fEnd_step F k0 q (by omega), ← hkk, ← hf]; rfl
        have hsW : g < W.heap.size := by omega
        have hEW : E ≤ W.heap.size := by omega
        rw [← hkk]
        clear hown s0 t0 s1 t1 hrowP hrowP1 q0 q1 hc2 hsm HO HR HI hke hat hPB hkk hf hL
        obtain ⟨fno, ⟨fl, fa, fn, fc⟩, fD, fd, ffi⟩ := f
        dsimp only at *
        go_wp2_with fail
        refine (C.out _ (by omega)).mono ?_
        rintro e w1 ⟨rfl, ow1, gr1⟩
        rw [ob_slice] at gr1
        have ne : ∀ g', ob fa = some g' → g' ≠ g := fun g' e => by have := HPN.out g' e; omega
        have hown1 : w1.ownsRow b0 142 5 (.slice (some ⟨g, 0, none⟩) n cap) n ((L.set (q * 5) (.int .i64 (k : Int))).set (q * 5 + 1) (.int .i64 ((k : Int) + 1))) := own_same HS1.out fun g' e => by
          have e' : g' = g := by simpa [Value.ownBlock] using e.symm
          subst e'
          exact gr1.block g' hsW (fun e2 => ne g' e2.symm rfl)
        have hl1 := hown1.1
        obtain ⟨u3, f3⟩ : ∃ u, w1.cell? ⟨g, q * 5 + 3, none⟩ = some u := ⟨_, (hown1.cellAt (q * 5 + 3) (by omega)).trans (List.getElem?_eq_getElem (by omega))⟩
        have z3 := hown1.frozenAt (q * 5 + 3)
        obtain ⟨u4, f4⟩ : ∃ u, w1.cell? ⟨g, q * 5 + 4, none⟩ = some u := ⟨_, (hown1.cellAt (q * 5 + 4) (by omega)).trans (List.getElem?_eq_getElem (by omega))⟩
        have z4 := hown1.frozenAt (q * 5 + 4)
        obtain ⟨s3, t3⟩ := hown1.stored (q * 5 + 3) (.bool (decide (((k : Int) + 2 + (fn : Int)) % 3 = 0)))
        obtain ⟨s4, t4⟩ := s3.stored (q * 5 + 4) (.int .i64 ((k : Int) + 2 + (fn : Int) + 1))
        obtain ⟨W2, hW2⟩ : ∃ W2, (w1.setCell ⟨g, q * 5 + 3, none⟩ (.bool (decide (((k : Int) + 2 + (fn : Int)) % 3 = 0)))).setCell ⟨g, q * 5 + 4, none⟩ (.int .i64 ((k : Int) + 2 + (fn : Int) + 1)) = W2 := ⟨_, rfl⟩
        rw [hW2] at s4 t4
        rw [HSET.out] at s4
        have HR2 : Hid (W2.ownsRow b0 142 5 (.slice (some ⟨g, 0, none⟩) n cap) n (cellsF (fMix k0 F (q + 1)))) := s4
        have hsm2 : ∀ g', g' ≠ g → W2.heap[g']? = w1.heap[g']? := fun g' hne => by rw [← hW2, Below.heap_setCell _ _ _ _ hne, Below.heap_setCell _ _ _ _ hne]
        have hsz2 : W2.heap.size = w1.heap.size := by rw [← hW2]; simp
        have HI2 : Hid (Inn b0 E w W2) := (HGW.out.trans (Inn.of_grown gr1 (fun g' e => by have := HPN.out g' e; omega))).trans (Inn.of_grown (t3.trans t4) (fun g' e => by have this : g' = g := (by simpa [Value.ownBlock] using e.symm); subst this; omega))
        have hs1 := gr1.size
        have HO2 : Hid (OwnF W2 B E (fMix k0 F (q + 1))) := fun j hj => by
          rw [fMix_len _ _ _ (by omega)] at hj
          by_cases e : j = q
          · subst e
            rw [← HSTEP.out, List.getD_eq_getElem?_getD, List.getElem?_set_self (by omega)]
            refine ⟨rfl, ?_, by omega, HPN.out⟩
            show W2.ownsRow B 9 1 (.slice fa fn fc) fn ((marksT (k + 2) fn).map Value.string)
            rw [marksT_eq]
            exact own_same ow1 fun g' e => hsm2 g' (by rw [ob_slice] at e; exact ne g' e)
          · have hj2 := HOW.out j hj e
            have hbl := (fMix_h F k0 q j).1
            rw [← HSTEP.out, List.getD_eq_getElem?_getD, List.getElem?_set_ne (fun h => e h.symm), ← List.getD_eq_getElem?_getD]
            obtain ⟨o1, o2, o3, o4⟩ := hj2
            refine ⟨o1, own_same o2 fun g' e' => ?_, by omega, o4⟩
            rw [ob_slice] at e'
            have r := o4 g' e'
            rw [hsm2 g' (by omega), gr1.block g' (by omega) (fun e2 => by
              rw [hbl] at e'
              exact HPW.out.ne (by omega) (by omega) e e' (by rw [← HFQ.out]; exact e2.symm))]
        clear hown1 hl1 s3 t3 s4 t4 hsm2 ow1 gr1 HS1 HOW HGW C
        have cb : (((k : Int) + 2 + (fn : Int)) % 3 == 0) = decide (((k : Int) + 2 + (fn : Int)) % 3 = 0) := by rw [Bool.eq_iff_iff]; simp
        go_wp2
        go_roundw
        case rel => exact ⟨q + 1, by omega, by go_num, by rw [HEND.out]; go_num, HR2, HO2, HI2⟩
        case measure => simp [intOf]; omega
      · have e : q = n := by omega
        subst e
        have hr := HR.out
        have ho := HO.out
        rw [fMix_full _ _ _ (by omega)] at hr ho
        have ht : F.take q = F := List.take_of_length_le (by omega)
        have HR' : Hid (wr.ownsRow b0 142 5 (.slice (some ⟨g, 0, none⟩) q cap) q (cellsF (fMks k0 F))) := hr
        have HO' : Hid (OwnF wr B E (fMks k0 F)) := ho
        have HT : Hid (F.take q = F) := ht
        clear hr ho HR HO ht
        go_wp2
        go_ret
        exact ⟨by rw [HT.out]; rfl, HR'.out, HO'.out, HI.out⟩

end Go.Proofs.YtkpopingbbaomaaGreatDoor
