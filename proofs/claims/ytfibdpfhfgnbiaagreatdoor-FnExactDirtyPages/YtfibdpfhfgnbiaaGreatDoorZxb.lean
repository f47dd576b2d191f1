/-
  Stores: marks, and what was marked is held.
-/
import Derived.Test.YtfibdpfhfgnbiaaGreatDoorZxa
import Derived.Test.YtfibdpfhfgnbiaaGreatDoorYtcq
import Derived.Test.YtfibdpfhfgnbiaaGreatDoorYteq
namespace Go.Proofs.YtfibdpfhfgnbiaaGreatDoor
open Go Go.RowKit
attribute [local go_sem ↓] Go.wp_at_zero Go.wp_at_succ

/-- A frame that is marked from k on, and where the next one begins. -/
def fMk1 (k : Nat) (f : FF) : FF := ⟨(k : Int), ⟨(k : Int) + 1, f.h.a, f.h.n, f.h.c⟩, ⟨(k : Int) + 1, marksT (k + 2) f.h.n⟩, decide (((k : Int) + 2 + (f.h.n : Int)) % 3 = 0), (k : Int) + 2 + (f.h.n : Int) + 1⟩
def fNxt (k : Nat) (f : FF) : Nat := k + 4 + f.h.n
def fMks : Nat → List FF → List FF
  | _, [] => []
  | k, f :: fs => fMk1 k f :: fMks (fNxt k f) fs
def fEnd : Nat → List FF → Nat
  | k, [] => k
  | k, f :: fs => fEnd (fNxt k f) fs
/-- The first i are marked. -/
def fMix (k : Nat) (F : List FF) (i : Nat) : List FF := fMks k (F.take i) ++ F.drop i
theorem fMks_len : ∀ (F : List FF) (k : Nat), (fMks k F).length = F.length
  | [], _ => rfl
  | f :: F, k => by rw [fMks, List.length_cons, fMks_len F, List.length_cons]
theorem fMix_zero (k : Nat) (F : List FF) : fMix k F 0 = F := by simp [fMix, fMks]
theorem fMix_len (k : Nat) (F : List FF) (i : Nat) (h : i ≤ F.length) : (fMix k F i).length = F.length := by
  unfold fMix; rw [List.length_append, fMks_len, List.length_take, List.length_drop]; omega
theorem fMix_full (k : Nat) (F : List FF) (i : Nat) (h : F.length ≤ i) : fMix k F i = fMks k F := by
  unfold fMix; rw [List.take_of_length_le h, List.drop_eq_nil_of_le h, List.append_nil]
theorem fMix_at : ∀ (F : List FF) (k i : Nat), i < F.length → (fMix k F i).getD i zeroF = F.getD i zeroF
  | [], _, _, h => absurd h (by simp)
  | f :: F, k, 0, _ => by simp [fMix, fMks]
  | f :: F, k, i + 1, h => by
    have ih := fMix_at F (fNxt k f) i (by simpa using h)
    show (fMk1 k f :: fMix (fNxt k f) F i).getD (i + 1) zeroF = _
    simpa using ih
theorem fMix_step : ∀ (F : List FF) (k i : Nat), i < F.length → (fMix k F i).set i (fMk1 (fEnd k (F.take i)) (F.getD i zeroF)) = fMix k F (i + 1)
  | [], _, _, h => absurd h (by simp)
  | f :: F, k, 0, _ => by simp [fMix, fMks, fEnd]
  | f :: F, k, i + 1, h => by
    have ih := fMix_step F (fNxt k f) i (by simpa using h)
    show (fMk1 k f :: fMix (fNxt k f) F i).set (i + 1) (fMk1 (fEnd (fNxt k f) (F.take i)) ((f :: F).getD (i + 1) zeroF)) = fMk1 k f :: fMix (fNxt k f) F (i + 1)
    rw [List.set_cons_succ, ← ih]
    simp
theorem fEnd_step : ∀ (F : List FF) (k i : Nat), i < F.length → fEnd k (F.take (i + 1)) = fNxt (fEnd k (F.take i)) (F.getD i zeroF)
  | [], _, _, h => absurd h (by simp)
  | f :: F, k, 0, _ => by simp [fEnd]
  | f :: F, k, i + 1, h => by
    have ih := fEnd_step F (fNxt k f) i (by simpa using h)
    show fEnd (fNxt k f) (F.take (i + 1)) = fNxt (fEnd (fNxt k f) (F.take i)) ((f :: F).getD (i + 1) zeroF)
    rw [ih]
    simp
theorem fEnd_le : ∀ (F : List FF) (k : Nat), (∀ f ∈ F, f.h.n ≤ 1048576) → k ≤ fEnd k F ∧ fEnd k F ≤ k + F.length * 1048580
  | [], k, _ => by simp [fEnd]
  | f :: F, k, h => by
    have ih := fEnd_le F (fNxt k f) (fun g hg => h g (by simp [hg]))
    have h1 := h f (by simp)
    rw [fEnd, List.length_cons]
    unfold fNxt at *
    omega
/-- Marking leaves every slice where it was. -/
theorem fMix_h : ∀ (F : List FF) (k i j : Nat), ((fMix k F i).getD j zeroF).h.a = (F.getD j zeroF).h.a ∧ ((fMix k F i).getD j zeroF).h.n = (F.getD j zeroF).h.n ∧ ((fMix k F i).getD j zeroF).h.c = (F.getD j zeroF).h.c
  | [], k, i, j => by simp [fMix, fMks]
  | f :: F, k, 0, j => by rw [fMix_zero]; simp
  | f :: F, k, i + 1, 0 => by simp [fMix, fMks, fMk1]
  | f :: F, k, i + 1, j + 1 => by
    have ih := fMix_h F (fNxt k f) i j
    show ((fMk1 k f :: fMix (fNxt k f) F i).getD (j + 1) zeroF).h.a = _ ∧ ((fMk1 k f :: fMix (fNxt k f) F i).getD (j + 1) zeroF).h.n = _ ∧ ((fMk1 k f :: fMix (fNxt k f) F i).getD (j + 1) zeroF).h.c = _
    simpa using ih
/-- No two pages in one block. -/
def PwF (F : List FF) : Prop := ∀ i j, i < j → j < F.length → ∀ g, ob (F.getD i zeroF).h.a = some g → ob (F.getD j zeroF).h.a ≠ some g
theorem PwF.ne {F : List FF} (h : PwF F) {i j : Nat} (hi : i < F.length) (hj : j < F.length) (hne : i ≠ j) {g : Nat} (e : ob (F.getD i zeroF).h.a = some g) : ob (F.getD j zeroF).h.a ≠ some g := by
  rcases Nat.lt_or_ge i j with hl | hl
  · exact h i j hl hj g e
  · intro e2
    exact h j i (by omega) hi g e2 e
theorem set_same {L : List Value} {o : Nat} {v : Value} (h : L[o]? = some v) : L.set o v = L := by
  apply List.ext_getElem?
  intro i
  rw [List.getElem?_set]
  split
  · rename_i e; subst e
    split
    · exact h.symm
    · rename_i hl; rw [List.getElem?_eq_none (by omega)] at h; cases h
  · rfl
/-- All but the slice. -/
theorem setF_but {L : List Value} {o : Nat} {v : FF} (h : L[o + 2]? = some (.slice v.h.a v.h.n v.h.c)) : setF L o v = (((L.set o (.int .i64 v.no)).set (o + 1) (.int .i64 v.h.l)).set (o + 3) (.bool v.d)).set (o + 4) (.int .i64 v.fi) := by
  unfold setF
  rw [set_same (L := (L.set o (.int .i64 v.no)).set (o + 1) (.int .i64 v.h.l)) (by rw [List.getElem?_set_ne (by omega), List.getElem?_set_ne (by omega)]; exact h)]
theorem ret_int2 {a : Int} {b : Nat} (h : a = (b : Int)) : (Ending.returned (.int .i64 a) : Ending) = .returned (.int .i64 (b : Int)) := by rw [h]
set_option maxRecDepth 100000 in
set_option maxHeartbeats 8000000 in
theorem c_markF (b0 B E : Nat) (a : Option Addr) (n cap k0 : Nat) (F : List FF) (w : World) (hrow : w.ownsRow b0 142 5 (.slice a n cap) n (cellsF F)) (hob : ∀ g, ob a = some g → b0 ≤ g ∧ g < B) (hBE : B ≤ E) (hpg : OwnF w B E F) (hpw : PwF F) (h1 : 1 ≤ k0) (hk : k0 ≤ 4398046511104) (hn : n ≤ 1048576) (hs : ∀ f ∈ F, f.h.n ≤ 1048576) :
    Calls Tryz.prog 106 #[.slice a n cap, .int .i64 k0] w fun e w' => e = .returned (.int .i64 (fEnd k0 F : Nat)) ∧ w'.ownsRow b0 142 5 (.slice a n cap) n (cellsF (fMks k0 F)) ∧ OwnF w' B E (fMks k0 F) ∧ Inn b0 E w w' := by
  have hxl : F.length = n := by have := hrow.1; rw [cellsF_len] at this; omega
  rcases own_form hrow with ⟨hv, rfl⟩ | ⟨g, cap', hv, hg1, hg2⟩
  · simp only [Value.slice.injEq] at hv
    obtain ⟨rfl, _, rfl⟩ := hv
    obtain rfl : F = [] := List.eq_nil_of_length_eq_zero hxl
    go_enter Tryz.func106, Tryz.ntmps106
    go_wp2
    refine wp_loop_rounds 1 ?_
    rw [rounds_succ]
    go_wp2
    go_ret
    exact ⟨rfl, hrow, hpg, Inn.of_below (Below.refl _ _)⟩
  · simp only [Value.slice.injEq] at hv
    obtain ⟨rfl, _, rfl⟩ := hv
    have hgB := hob g rfl
    have HPG : Hid (OwnF w B E F) := hpg
    have HPW : Hid (PwF F) := hpw
    have HS : Hid (∀ f ∈ F, f.h.n ≤ 1048576) := hs
    clear hob hpg hpw hs
    go_enter Tryz.func106, Tryz.ntmps106
    go_wp2
    go_loopw [1, 5] (fun m i wr => ∃ q : Nat, q ≤ n ∧ i = .int .i64 q ∧ m = .int .i64 ((fEnd k0 (F.take q) : Nat) : Int) ∧ Hid (wr.ownsRow b0 142 5 (.slice (some ⟨g, 0, none⟩) n cap) n (cellsF (fMix k0 F q))) ∧ Hid (OwnF wr B E (fMix k0 F q)) ∧ Hid (Inn b0 E w wr)) (fun _ i _ => n - (intOf i).toNat)
    case atStart => exact ⟨0, by omega, rfl, rfl, by unfold Hid; rw [fMix_zero]; exact hrow, by unfold Hid; rw [fMix_zero]; exact HPG.out, Inn.of_below (Below.refl _ _)⟩
    case round =>
      obtain ⟨q, hq, rfl, rfl, HR, HO, HI⟩ := hrel
      clear hrow HPG
      by_cases hlt : q < n
      · have hml := fMix_len k0 F q (by omega)
        obtain ⟨f, hf⟩ : ∃ f, f = F.getD q zeroF := ⟨_, rfl⟩
        have hat := fMix_at F k0 q (by omega)
        rw [← hf] at hat
        obtain ⟨k, hkk⟩ : ∃ k, k = fEnd k0 (F.take q) := ⟨_, rfl⟩
        have hfm : f.h.n ≤ 1048576 := HS.out f (by rw [hf, List.getD_eq_getElem?_getD, List.getElem?_eq_getElem (by omega)]; simp)
        have hke := fEnd_le (F.take q) k0 (fun f hf => HS.out f (List.mem_of_mem_take hf))
        rw [← hkk, List.length_take, Nat.min_eq_left (by omega)] at hke
        have hke1 := hke.1
        have hke2 := hke.2
        obtain ⟨L, hL⟩ : ∃ L, L = cellsF (fMix k0 F q) := ⟨_, rfl⟩
        have hLl : L.length = n * 5 := by rw [hL, cellsF_len, hml]; omega
        have hc2 : L[q * 5 + 2]? = some (.slice f.h.a f.h.n f.h.c) := by
          rw [hL, cellsF_get _ q (by omega) 2 (by omega), hat]; rfl
        have HSET : Hid ((((L.set (q * 5) (.int .i64 (k : Int))).set (q * 5 + 1) (.int .i64 ((k : Int) + 1))).set (q * 5 + 3) (.bool (decide (((k : Int) + 2 + (f.h.n : Int)) % 3 = 0)))).set (q * 5 + 4) (.int .i64 ((k : Int) + 2 + (f.h.n : Int) + 1)) = cellsF (fMix k0 F (q + 1))) := by
          unfold Hid
          have hset := cellsF_set (fMix k0 F q) q (fMk1 k f) (by omega)
          rw [hkk, hf, fMix_step F k0 q (by omega), ← hkk, ← hf, ← hL, setF_but (v := fMk1 k f) hc2] at hset
          exact hset
        have HOq := HO.out q (by omega)
        rw [hat] at HOq
        have hown := HR.out
        rw [← hL] at hown
        obtain ⟨_, hrowP, hEw, hPB⟩ := HOq
        have HPN : Hid (∀ g', ob f.h.a = some g' → B ≤ g' ∧ g' < E) := hPB
        have hgw : g < wr.heap.size := (hown.lt g rfl).2
        -- the two stores ahead of the call
        obtain ⟨u0, q0⟩ : ∃ u, L[q * 5]? = some u := ⟨_, List.getElem?_eq_getElem (by omega)⟩
        have f0 := hown.cellAt (q * 5) (by omega)
        rw [q0] at f0
        have z0 := hown.frozenAt (q * 5)
        obtain ⟨u1, q1⟩ : ∃ u, L[q * 5 + 1]? = some u := ⟨_, List.getElem?_eq_getElem (by omega)⟩
        have f1 := hown.cellAt (q * 5 + 1) (by omega)
        rw [q1] at f1
        have z1 := hown.frozenAt (q * 5 + 1)
        have f2 := hown.cellAt (q * 5 + 2) (by omega)
        rw [hc2] at f2
        obtain ⟨s0, t0⟩ := hown.stored (q * 5) (.int .i64 (k : Int))
        obtain ⟨s1, t1⟩ := s0.stored (q * 5 + 1) (.int .i64 ((k : Int) + 1))
        obtain ⟨W, hW⟩ : ∃ W, (wr.setCell ⟨g, q * 5, none⟩ (.int .i64 (k : Int))).setCell ⟨g, q * 5 + 1, none⟩ (.int .i64 ((k : Int) + 1)) = W := ⟨_, rfl⟩
        rw [hW] at s1 t1
        have hsm : ∀ g', g' ≠ g → W.heap[g']? = wr.heap[g']? := fun g' hne => by rw [← hW, Below.heap_setCell _ _ _ _ hne, Below.heap_setCell _ _ _ _ hne]
        have hszW : W.heap.size = wr.heap.size := by rw [← hW]; simp
        have hrowP1 : W.ownsRow B 9 1 (.slice f.h.a f.h.n f.h.c) f.h.n (f.D.S.map Value.string) := own_same hrowP fun g' e => hsm g' (by rw [ob_slice] at e; have := hPB g' e; omega)
        have C : Hid (∀ x : Int, x = ((k + 2 : Nat) : Int) → Calls Tryz.prog 191 #[.slice f.h.a f.h.n f.h.c, .int .i64 x] W fun e w' => e = .returned (.int .i64 (k + 2 + f.h.n : Nat)) ∧ w'.ownsRow B 9 1 (.slice f.h.a f.h.n f.h.c) f.h.n (marksS (k + 2) f.h.n) ∧ W.grownBy w' (Value.slice f.h.a f.h.n f.h.c).ownBlock) := fun x hx => by subst hx; exact c_markS2 B (.slice f.h.a f.h.n f.h.c) f.h.n (k + 2) _ W hrowP1 (by omega) (by omega) (by omega)
        have f2' : W.cell? ⟨g, q * 5 + 2, none⟩ = some (.slice f.h.a f.h.n f.h.c) := by
          have := s1.cellAt (q * 5 + 2) (by omega)
          rw [List.getElem?_set_ne (by omega), List.getElem?_set_ne (by omega), hc2] at this
          exact this
        have HGW : Hid (Inn b0 E w W) := HI.out.trans (Inn.of_grown (t0.trans t1) (fun g' e => by have this : g' = g := (by simpa [Value.ownBlock] using e.symm); subst this; omega))
        have HS1 : Hid (W.ownsRow b0 142 5 (.slice (some ⟨g, 0, none⟩) n cap) n ((L.set (q * 5) (.int .i64 (k : Int))).set (q * 5 + 1) (.int .i64 ((k : Int) + 1)))) := s1
        have HOW : Hid (∀ j, j < F.length → j ≠ q → G.OwnG W B E ((fMix k0 F q).getD j zeroF).h ((fMix k0 F q).getD j zeroF).D) := fun j hj _ => (HO.out j (by omega)).same (by omega) fun g' h1' _ => hsm g' (by omega)
        have HFQ : Hid (ob f.h.a = ob (F.getD q zeroF).h.a) := by unfold Hid; rw [hf]
        have HSTEP : Hid ((fMix k0 F q).set q (fMk1 k f) = fMix k0 F (q + 1)) := by unfold Hid; rw [hkk, hf]; exact fMix_step F k0 q (by omega)
        have HEND : Hid (fEnd k0 (F.take (q + 1)) = k + 4 + f.h.n) := by unfold Hid; rw [fEnd_step F k0 q (by omega), ← hkk, ← hf]; rfl
        have hsW : g < W.heap.size := by omega
        have hEW : E ≤ W.heap.size := by omega
        rw [← hkk]
        clear hown s0 t0 s1 t1 hrowP hrowP1 q0 q1 hc2 hsm HO HR HI hke hat hPB hkk hf hL
        obtain ⟨fno, ⟨fl, fa, fn, fc⟩, fD, fd, ffi⟩ := f
        dsimp only at *
        go_wp2_with fail
        refine (C.out _ (by omega)).mono ?_
        rintro e w1 ⟨rfl, ow1, gr1⟩
        rw [ob_slice] at gr1
        have ne : ∀ g', ob fa = some g' → g' ≠ g := fun g' e => by have := HPN.out g' e; omega
        have hown1 : w1.ownsRow b0 142 5 (.slice (some ⟨g, 0, none⟩) n cap) n ((L.set (q * 5) (.int .i64 (k : Int))).set (q * 5 + 1) (.int .i64 ((k : Int) + 1))) := own_same HS1.out fun g' e => by
          have e' : g' = g := by simpa [Value.ownBlock] using e.symm
          subst e'
          exact gr1.block g' hsW (fun e2 => ne g' e2.symm rfl)
        have hl1 := hown1.1
        obtain ⟨u3, f3⟩ : ∃ u, w1.cell? ⟨g, q * 5 + 3, none⟩ = some u := ⟨_, (hown1.cellAt (q * 5 + 3) (by omega)).trans (List.getElem?_eq_getElem (by omega))⟩
        have z3 := hown1.frozenAt (q * 5 + 3)
        obtain ⟨u4, f4⟩ : ∃ u, w1.cell? ⟨g, q * 5 + 4, none⟩ = some u := ⟨_, (hown1.cellAt (q * 5 + 4) (by omega)).trans (List.getElem?_eq_getElem (by omega))⟩
        have z4 := hown1.frozenAt (q * 5 + 4)
        obtain ⟨s3, t3⟩ := hown1.stored (q * 5 + 3) (.bool (decide (((k : Int) + 2 + (fn : Int)) % 3 = 0)))
        obtain ⟨s4, t4⟩ := s3.stored (q * 5 + 4) (.int .i64 ((k : Int) + 2 + (fn : Int) + 1))
        obtain ⟨W2, hW2⟩ : ∃ W2, (w1.setCell ⟨g, q * 5 + 3, none⟩ (.bool (decide (((k : Int) + 2 + (fn : Int)) % 3 = 0)))).setCell ⟨g, q * 5 + 4, none⟩ (.int .i64 ((k : Int) + 2 + (fn : Int) + 1)) = W2 := ⟨_, rfl⟩
        rw [hW2] at s4 t4
        rw [HSET.out] at s4
        have HR2 : Hid (W2.ownsRow b0 142 5 (.slice (some ⟨g, 0, none⟩) n cap) n (cellsF (fMix k0 F (q + 1)))) := s4
        have hsm2 : ∀ g', g' ≠ g → W2.heap[g']? = w1.heap[g']? := fun g' hne => by rw [← hW2, Below.heap_setCell _ _ _ _ hne, Below.heap_setCell _ _ _ _ hne]
        have hsz2 : W2.heap.size = w1.heap.size := by rw [← hW2]; simp
        have HI2 : Hid (Inn b0 E w W2) := (HGW.out.trans (Inn.of_grown gr1 (fun g' e => by have := HPN.out g' e; omega))).trans (Inn.of_grown (t3.trans t4) (fun g' e => by have this : g' = g := (by simpa [Value.ownBlock] using e.symm); subst this; omega))
        have hs1 := gr1.size
        have HO2 : Hid (OwnF W2 B E (fMix k0 F (q + 1))) := fun j hj => by
          rw [fMix_len _ _ _ (by omega)] at hj
          by_cases e : j = q
          · subst e
            rw [← HSTEP.out, List.getD_eq_getElem?_getD, List.getElem?_set_self (by omega)]
            refine ⟨rfl, ?_, by omega, HPN.out⟩
            show W2.ownsRow B 9 1 (.slice fa fn fc) fn ((marksT (k + 2) fn).map Value.string)
            rw [marksT_eq]
            exact own_same ow1 fun g' e => hsm2 g' (by rw [ob_slice] at e; exact ne g' e)
          · have hj2 := HOW.out j hj e
            have hbl := (fMix_h F k0 q j).1
            rw [← HSTEP.out, List.getD_eq_getElem?_getD, List.getElem?_set_ne (fun h => e h.symm), ← List.getD_eq_getElem?_getD]
            obtain ⟨o1, o2, o3, o4⟩ := hj2
            refine ⟨o1, own_same o2 fun g' e' => ?_, by omega, o4⟩
            rw [ob_slice] at e'
            have r := o4 g' e'
            rw [hsm2 g' (by omega), gr1.block g' (by omega) (fun e2 => by
              rw [hbl] at e'
              exact HPW.out.ne (by omega) (by omega) e e' (by rw [← HFQ.out]; exact e2.symm))]
        clear hown1 hl1 s3 t3 s4 t4 hsm2 ow1 gr1 HS1 HOW HGW C
        have cb : (((k : Int) + 2 + (fn : Int)) % 3 == 0) = decide (((k : Int) + 2 + (fn : Int)) % 3 = 0) := by rw [Bool.eq_iff_iff]; simp
        go_wp2
        go_roundw
        case rel => exact ⟨q + 1, by omega, by go_num, by rw [HEND.out]; go_num, HR2, HO2, HI2⟩
        case measure => simp [intOf]; omega
      · have e : q = n := by omega
        subst e
        have hr := HR.out
        have ho := HO.out
        rw [fMix_full _ _ _ (by omega)] at hr ho
        have ht : F.take q = F := List.take_of_length_le (by omega)
        have HR' : Hid (wr.ownsRow b0 142 5 (.slice (some ⟨g, 0, none⟩) q cap) q (cellsF (fMks k0 F))) := hr
        have HO' : Hid (OwnF wr B E (fMks k0 F)) := ho
        have HT : Hid (F.take q = F) := ht
        clear hr ho HR HO ht
        go_wp2
        go_ret
        exact ⟨by rw [HT.out]; rfl, HR'.out, HO'.out, HI.out⟩

end Go.Proofs.YtfibdpfhfgnbiaaGreatDoor
namespace Go.Proofs.YtfibdpfhfgnbiaaGreatDoor
open Go Go.RowKit
attribute [local go_sem ↓] Go.wp_at_zero Go.wp_at_succ

theorem fMks_get : ∀ (F : List FF) (k i : Nat), i < F.length → (fMks k F).getD i zeroF = fMk1 (fEnd k (F.take i)) (F.getD i zeroF)
  | [], _, _, h => absurd h (by simp)
  | f :: F, k, 0, _ => by simp [fMks, fEnd]
  | f :: F, k, i + 1, h => by
    have ih := fMks_get F (fNxt k f) i (by simpa using h)
    show (fMk1 k f :: fMks (fNxt k f) F).getD (i + 1) zeroF = fMk1 (fEnd (fNxt k f) (F.take i)) ((f :: F).getD (i + 1) zeroF)
    simpa using ih
set_option maxRecDepth 100000 in
set_option maxHeartbeats 8000000 in
theorem c_heldF (a : Option Addr) (n cap k0 : Nat) (F : List FF) (w : World) (hr : RdF w a n (fMks k0 F)) (h1 : 1 ≤ k0) (hk : k0 ≤ 4398046511104) (hn : n ≤ 1048576) (hs : ∀ f ∈ F, f.h.n ≤ 1048576) :
    Calls Tryz.prog 109 #[.slice a n cap, .int .i64 k0] w fun e w' => e = .returned (.int .i64 (fEnd k0 F : Nat)) ∧ Below w.heap.size w w' := by
  obtain ⟨hl, hcs, hpg⟩ := hr
  rw [fMks_len] at hl
  have HPG : Hid (∀ i, i < n → G.RdG w ((fMks k0 F).getD i zeroF).h ((fMks k0 F).getD i zeroF).D) := hpg
  have HS : Hid (∀ f ∈ F, f.h.n ≤ 1048576) := hs
  clear hpg hs
  go_enter Tryz.func109, Tryz.ntmps109
  go_wp2
  go_loopw [1, 5] (fun m i wr => ∃ q : Nat, q ≤ n ∧ i = .int .i64 q ∧ m = .int .i64 ((fEnd k0 (F.take q) : Nat) : Int) ∧ Hid (Below w.heap.size w wr)) (fun _ i _ => n - (intOf i).toNat)
  case atStart => exact ⟨0, by omega, rfl, rfl, Below.refl _ _⟩
  case round =>
    obtain ⟨q, hq, rfl, rfl, HB⟩ := hrel
    by_cases hlt : q < n
    · obtain ⟨b, off, rfl, hbl, hc⟩ := hcs (by omega)
      obtain ⟨d0, d1, d2, d3, d4⟩ := hc q hlt
      have RG := (HPG.out q hlt).below HB.out
      have hg := fMks_get F k0 q (by omega)
      obtain ⟨f, hf⟩ : ∃ f, f = F.getD q zeroF := ⟨_, rfl⟩
      obtain ⟨k, hkk⟩ : ∃ k, k = fEnd k0 (F.take q) := ⟨_, rfl⟩
      have hfm : f.h.n ≤ 1048576 := HS.out f (by rw [hf, List.getD_eq_getElem?_getD, List.getElem?_eq_getElem (by omega)]; simp)
      have hke := fEnd_le (F.take q) k0 (fun f hf => HS.out f (List.mem_of_mem_take hf))
      rw [← hkk, List.length_take, Nat.min_eq_left (by omega)] at hke
      have hke1 := hke.1
      have hke2 := hke.2
      have HEND : Hid (fEnd k0 (F.take (q + 1)) = k + 4 + f.h.n) := by unfold Hid; rw [fEnd_step F k0 q (by omega), ← hkk, ← hf]; rfl
      rw [hg, ← hkk, ← hf] at d0 d1 d2 d3 d4 RG
      rw [← hkk]
      have hb := HB.out
      have e0 := (hb.cell (p := ⟨b, off + q * 5, none⟩) hbl).trans d0
      have e1 := (hb.cell (p := ⟨b, off + q * 5 + 1, none⟩) hbl).trans d1
      have e2 := (hb.cell (p := ⟨b, off + q * 5 + 2, none⟩) hbl).trans d2
      have e3 := (hb.cell (p := ⟨b, off + q * 5 + 3, none⟩) hbl).trans d3
      have e4 := (hb.cell (p := ⟨b, off + q * 5 + 4, none⟩) hbl).trans d4
      clear hc hcs hke hkk hf hg hb d0 d1 d2 d3 d4
      obtain ⟨fno, ⟨fl, fa, fn, fc⟩, fD, fd, ffi⟩ := f
      simp only [fMk1] at *
      have RV : RdV wr fa fn (marksS (k + 2) fn) := by have := RG.2; rwa [marksT_eq] at this
      have C : Hid (∀ x : Int, x = ((k + 2 : Nat) : Int) → Calls Tryz.prog 194 #[.slice fa fn fc, .int .i64 x] wr fun e w' => e = .returned (.int .i64 (k + 2 + fn : Nat)) ∧ Below wr.heap.size wr w') := fun x hx => by subst hx; exact c_heldS2 fa fn fc (k + 2) wr RV (by omega) (by omega) (by omega)
      clear RG RV
      have n1 : ((k : Int) != (k : Int)) = false := by simp
      have n2 : ((k : Int) + 1 != (k : Int) + 1) = false := by simp
      have g1 : (0 : Int) ≤ (q : Int) := by omega
      have g2 : (q : Int) < (n : Int) := by omega
      go_wp2_with fail
      refine (C.out _ (by omega)).mono ?_
      rintro e w1 ⟨rfl, hb1⟩
      have B1 : Hid (Below w.heap.size w w1) := HB.out.trans (hb1.mono HB.out.size)
      have j3 : w1.cell? ⟨b, off + q * 5 + 3, none⟩ = some (.bool (decide (((k : Int) + 2 + (fn : Int)) % 3 = 0))) := far6 hb1 e3
      have j4 : w1.cell? ⟨b, off + q * 5 + 4, none⟩ = some (.int .i64 ((k : Int) + 2 + (fn : Int) + 1)) := far6 hb1 e4
      clear hb1 e0 e1 e2 e3 e4 C HB
      have cb : (((k : Int) + 2 + (fn : Int)) % 3 == 0) = decide (((k : Int) + 2 + (fn : Int)) % 3 = 0) := by rw [Bool.eq_iff_iff]; simp
      obtain ⟨db, hdb⟩ : ∃ db, db = decide (((k : Int) + 2 + (fn : Int)) % 3 = 0) := ⟨_, rfl⟩
      rw [← hdb] at j3 cb
      have n3 : (db != db) = false := by simp
      go_wp2
      go_roundw
      case rel => exact ⟨q + 1, by omega, by go_num, by rw [HEND.out]; go_num, B1⟩
      case measure => simp [intOf]; omega
    · have e : q = n := by omega
      subst e
      have HT : Hid (F.take q = F) := List.take_of_length_le (by omega)
      go_wp2
      go_ret
      exact ⟨by rw [HT.out]; rfl, HB.out⟩

end Go.Proofs.YtfibdpfhfgnbiaaGreatDoor
namespace Go.Proofs.YtfibdpfhfgnbiaaGreatDoor
open Go Go.RowKit
attribute [local go_sem ↓] Go.wp_at_zero Go.wp_at_succ

/-- A store whose arrays are the call's own, made since B and ahead of E: the disk's, the log's, the frames' with their pages', each in a part of its own. -/
def OwnT (w : World) (B E : Nat) (h : HD) (D : DD) (la : Option Addr) (ln lc : Nat) (Lg : List DR) (fa : Option Addr) (fn fc : Nat) (F : List FF) : Prop :=
  ∃ d0 d1 l0 l1 f0 f1 p1, (B ≤ d0 ∧ d1 ≤ E ∧ B ≤ l0 ∧ l1 ≤ E ∧ B ≤ f0 ∧ f0 ≤ f1 ∧ f1 ≤ p1 ∧ p1 ≤ E ∧ E ≤ w.heap.size ∧ (d1 ≤ l0 ∨ l1 ≤ d0) ∧ (d1 ≤ f0 ∨ p1 ≤ d0) ∧ (l1 ≤ f0 ∨ p1 ≤ l0)) ∧
    OwnD w d0 d1 h D ∧ (w.ownsRow l0 78 10 (.slice la ln lc) ln (cellsQ Lg) ∧ ∀ g, ob la = some g → l0 ≤ g ∧ g < l1) ∧ (w.ownsRow f0 142 5 (.slice fa fn fc) fn (cellsF F) ∧ ∀ g, ob fa = some g → f0 ≤ g ∧ g < f1) ∧ OwnF w f1 p1 F ∧ PwF F
theorem OwnT.rd {w : World} {B E : Nat} {h : HD} {D : DD} {la : Option Addr} {ln lc : Nat} {Lg : List DR} {fa : Option Addr} {fn fc : Nat} {F : List FF} (o : OwnT w B E h D la ln lc Lg fa fn fc F) : RdD w h D ∧ RdQ w la ln Lg ∧ RdF w fa fn F := by
  obtain ⟨d0, d1, l0, l1, f0, f1, p1, _, o1, o2, o3, o4, _⟩ := o
  exact ⟨o1.rd, RdQ.own o2.1, o4.rdF o3.1⟩
theorem OwnT.same {w w' : World} {B E : Nat} {h : HD} {D : DD} {la : Option Addr} {ln lc : Nat} {Lg : List DR} {fa : Option Addr} {fn fc : Nat} {F : List FF} (o : OwnT w B E h D la ln lc Lg fa fn fc F) (hsz : w.heap.size ≤ w'.heap.size) (hs : ∀ g, B ≤ g → g < E → w'.heap[g]? = w.heap[g]?) : OwnT w' B E h D la ln lc Lg fa fn fc F := by
  obtain ⟨d0, d1, l0, l1, f0, f1, p1, hh, o1, o2, o3, o4, o5⟩ := o
  refine ⟨d0, d1, l0, l1, f0, f1, p1, by omega, o1.same hsz fun g h1 h2 => hs g (by omega) (by omega), ⟨own_same o2.1 fun g e => ?_, o2.2⟩, ⟨own_same o3.1 fun g e => ?_, o3.2⟩, o4.same hsz fun g h1 h2 => hs g (by omega) (by omega), o5⟩
  · rw [ob_slice] at e; have := o2.2 g e; exact hs g (by omega) (by omega)
  · rw [ob_slice] at e; have := o3.2 g e; exact hs g (by omega) (by omega)
theorem OwnT.below {w w' : World} {B E : Nat} {h : HD} {D : DD} {la : Option Addr} {ln lc : Nat} {Lg : List DR} {fa : Option Addr} {fn fc : Nat} {F : List FF} (o : OwnT w B E h D la ln lc Lg fa fn fc F) (hb : Below w.heap.size w w') : OwnT w' B E h D la ln lc Lg fa fn fc F :=
  o.same hb.size fun g _ h2 => hb.block g (by obtain ⟨d0, d1, l0, l1, f0, f1, p1, hh, _⟩ := o; omega)
theorem Inn.wide {B E B' E' : Nat} {w w' : World} (h : Inn B E w w') (hb : B' ≤ B) (he : E ≤ E') : Inn B' E' w w' :=
  ⟨h.os, h.tape, h.output, h.size, fun k hk ho => h.block k hk (by omega)⟩
/-- What the marks of a store end with. -/
def mkQ (h : HD) : Nat := markN h
def mkF (h : HD) (ln : Nat) : Nat := markN h + ln * 10
def mkE (h : HD) (ln : Nat) (F : List FF) : Nat := fEnd (mkF h ln) F
theorem markN_le {h : HD} (f0 : h.n0 ≤ 1048576) (f1 : h.n1 ≤ 1048576) (f2 : h.n2 ≤ 1048576) : 1 ≤ markN h ∧ markN h ≤ 8388608 := by unfold markN; omega
set_option maxRecDepth 100000 in
set_option maxHeartbeats 8000000 in
theorem c_markST (h : HD) (D : DD) (ep : Int) (la : Option Addr) (ln lc : Nat) (Lg : List DR) (su : Int) (fa : Option Addr) (fn fc : Nat) (F : List FF) (ha : Int) (B E : Nat) (w : World) (o : OwnT w B E h D la ln lc Lg fa fn fc F) (f0 : h.n0 ≤ 1048576) (f1 : h.n1 ≤ 1048576) (f2 : h.n2 ≤ 1048576) (f3 : ln ≤ 1048576) (f4 : fn ≤ 1048576) (f5 : ∀ f ∈ F, f.h.n ≤ 1048576) :
    Calls Tryz.prog 42 #[.agg #[.slice h.a0 h.n0 h.c0, .slice h.a1 h.n1 h.c1, .bool h.b, .slice h.a2 h.n2 h.c2, .int .i64 ep, .slice la ln lc, .int .i64 su, .slice fa fn fc, .int .i64 ha], .int .i64 1] w fun e w' => e = .returned (.int .i64 (mkE h ln F : Nat)) ∧ OwnT w' B E h (markD h) la ln lc (marksQ (mkQ h) ln) fa fn fc (fMks (mkF h ln) F) ∧ Inn B E w w' := by
  obtain ⟨d0, d1, l0, l1, e0, e1, p1, hh, o1, o2, o3, o4, o5⟩ := o
  obtain ⟨V, hV⟩ : ∃ V, w.alloc (.cells #[.slice h.a0 h.n0 h.c0, .slice h.a1 h.n1 h.c1, .bool h.b, .slice h.a2 h.n2 h.c2, .int .i64 ep, .slice la ln lc, .int .i64 su, .slice fa fn fc, .int .i64 ha] 46) = V := ⟨_, rfl⟩
  have hb0 : Below w.heap.size w V := by rw [← hV]; exact (Below.refl _ _).alloc (Nat.le_refl _) _
  have X0 : Hid (Box V w.heap.size 46 #[.slice h.a0 h.n0 h.c0, .slice h.a1 h.n1 h.c1, .bool h.b, .slice h.a2 h.n2 h.c2, .int .i64 ep, .slice la ln lc, .int .i64 su, .slice fa fn fc, .int .i64 ha]) := by unfold Hid; rw [← hV]; exact Box.new _ _ _
  have hmk := markN_le f0 f1 f2
  have hl0 : w.heap.size < V.heap.size := X0.out.lt
  have hbl : ∀ g, g < w.heap.size → V.heap[g]? = w.heap[g]? := fun g hg => hb0.block g hg
  have O1 : Hid (OwnD V d0 d1 h D) := o1.same hb0.size fun g _ h2 => hbl g (by omega)
  have O2 : Hid (V.ownsRow l0 78 10 (.slice la ln lc) ln (cellsQ Lg)) := own_same o2.1 fun g e => hbl g (by rw [ob_slice] at e; have := o2.2 g e; omega)
  have O3 : Hid (V.ownsRow e0 142 5 (.slice fa fn fc) fn (cellsF F)) := own_same o3.1 fun g e => hbl g (by rw [ob_slice] at e; have := o3.2 g e; omega)
  have O4 : Hid (OwnF V e1 p1 F) := o4.same hb0.size fun g _ h2 => hbl g (by omega)
  have P2 : Hid (∀ g, ob la = some g → l0 ≤ g ∧ g < l1) := o2.2
  have P3 : Hid (∀ g, ob fa = some g → e0 ≤ g ∧ g < e1) := o3.2
  have P5 : Hid (PwF F) := o5
  have P6 : Hid (∀ f ∈ F, f.h.n ≤ 1048576) := f5
  have I0 : Hid (Inn B E w V) := Inn.of_below hb0
  have C1 := c_markDisk h D d0 d1 V O1.out f0 f1 f2
  clear o1 o2 o3 o4 o5 f5 O1 hbl hb0
  obtain ⟨x0, x1, x2, x3, x4, x5, x6, x7, x8⟩ := box9 X0.out
  go_enter Tryz.func42, Tryz.ntmps42
  go_wp2_with fail
  refine C1.mono ?_
  rintro e w1 ⟨rfl, d1o, in1⟩
  have X1 : Hid (Box w1 w.heap.size 46 #[.slice h.a0 h.n0 h.c0, .slice h.a1 h.n1 h.c1, .bool h.b, .slice h.a2 h.n2 h.c2, .int .i64 ep, .slice la ln lc, .int .i64 su, .slice fa fn fc, .int .i64 ha]) := X0.out.inn in1 (by omega)
  have hs1 := in1.size
  have I1 : Hid (Inn B E w w1) := I0.out.trans (in1.wide (by omega) (by omega))
  have D1 : Hid (OwnD w1 d0 d1 h (markD h)) := d1o
  have hk1 : ∀ g, g < V.heap.size → (g < d0 ∨ d1 ≤ g) → w1.heap[g]? = V.heap[g]? := fun g h1 h2 => in1.block g h1 h2
  have Q2 : Hid (w1.ownsRow l0 78 10 (.slice la ln lc) ln (cellsQ Lg)) := own_same O2.out fun g e => by rw [ob_slice] at e; have := P2.out g e; exact hk1 g (by omega) (by omega)
  have Q3 : Hid (w1.ownsRow e0 142 5 (.slice fa fn fc) fn (cellsF F)) := own_same O3.out fun g e => by rw [ob_slice] at e; have := P3.out g e; exact hk1 g (by omega) (by omega)
  have Q4 : Hid (OwnF w1 e1 p1 F) := O4.out.same hs1 fun g h1 h2 => hk1 g (by omega) (by omega)
  have C2 := c_markQ2 l0 (.slice la ln lc) ln (markN h) Lg w1 Q2.out (by omega) (by omega) (by omega)
  clear C1 d1o in1 X0 I0 O2 O3 O4 hk1 Q2 hV x0 x1 x2 x3 x4 x5 x6 x7 x8
  obtain ⟨x0, x1, x2, x3, x4, x5, x6, x7, x8⟩ := box9 X1.out
  go_wp2_with fail
  refine C2.mono ?_
  rintro e w2 ⟨rfl, q2o, gr2⟩
  rw [ob_slice] at gr2
  have in2 : Inn l0 l1 w1 w2 := Inn.of_grown gr2 P2.out
  have hs2 := in2.size
  have X2 : Hid (Box w2 w.heap.size 46 #[.slice h.a0 h.n0 h.c0, .slice h.a1 h.n1 h.c1, .bool h.b, .slice h.a2 h.n2 h.c2, .int .i64 ep, .slice la ln lc, .int .i64 su, .slice fa fn fc, .int .i64 ha]) := X1.out.inn in2 (by omega)
  have I2 : Hid (Inn B E w w2) := I1.out.trans (in2.wide (by omega) (by omega))
  have D2 : Hid (OwnD w2 d0 d1 h (markD h)) := D1.out.same hs2 fun g h1 h2 => in2.block g (by omega) (by omega)
  have R2 : Hid (w2.ownsRow l0 78 10 (.slice la ln lc) ln (cellsQ (marksQ (markN h) ln))) := q2o
  have R3 : Hid (w2.ownsRow e0 142 5 (.slice fa fn fc) fn (cellsF F)) := own_same Q3.out fun g e => by rw [ob_slice] at e; have := P3.out g e; exact in2.block g (by omega) (by omega)
  have R4 : Hid (OwnF w2 e1 p1 F) := Q4.out.same hs2 fun g h1 h2 => in2.block g (by omega) (by omega)
  have C3 : Hid (∀ x : Int, x = ((mkF h ln : Nat) : Int) → Calls Tryz.prog 106 #[.slice fa fn fc, .int .i64 x] w2 fun e w' => e = .returned (.int .i64 (fEnd (mkF h ln) F : Nat)) ∧ w'.ownsRow e0 142 5 (.slice fa fn fc) fn (cellsF (fMks (mkF h ln) F)) ∧ OwnF w' e1 p1 (fMks (mkF h ln) F) ∧ Inn e0 p1 w2 w') := fun x hx => by subst hx; exact c_markF e0 e1 p1 fa fn fc (mkF h ln) F w2 R3.out P3.out (by omega) R4.out P5.out (by unfold mkF; omega) (by unfold mkF; omega) f4 P6.out
  clear C2 q2o gr2 in2 X1 I1 D1 Q3 Q4 R3 R4 x0 x1 x2 x3 x4 x5 x6 x7 x8
  obtain ⟨x0, x1, x2, x3, x4, x5, x6, x7, x8⟩ := box9 X2.out
  go_wp2_with fail
  refine (C3.out _ (by unfold mkF; omega)).mono ?_
  rintro e w3 ⟨rfl, f3o, f4o, in3⟩
  have hs3 := in3.size
  have D3 : OwnD w3 d0 d1 h (markD h) := D2.out.same hs3 fun g h1 h2 => in3.block g (by omega) (by omega)
  have S2 : w3.ownsRow l0 78 10 (.slice la ln lc) ln (cellsQ (marksQ (markN h) ln)) := own_same R2.out fun g e => by rw [ob_slice] at e; have := P2.out g e; exact in3.block g (by omega) (by omega)
  have PW : PwF (fMks (mkF h ln) F) := fun i j hij hj g e1' e2 => by
    rw [fMks_len] at hj
    have a1 := (fMix_h F (mkF h ln) F.length i).1
    have a2 := (fMix_h F (mkF h ln) F.length j).1
    rw [fMix_full _ _ _ (Nat.le_refl _)] at a1 a2
    rw [a1] at e1'
    rw [a2] at e2
    exact P5.out i j hij hj g e1' e2
  have RES : Hid (OwnT w3 B E h (markD h) la ln lc (marksQ (mkQ h) ln) fa fn fc (fMks (mkF h ln) F)) := ⟨d0, d1, l0, l1, e0, e1, p1, by omega, D3, ⟨S2, P2.out⟩, ⟨f3o, P3.out⟩, f4o, PW⟩
  have I3 : Hid (Inn B E w w3) := I2.out.trans (in3.wide (by omega) (by omega))
  clear f3o f4o in3 D3 S2 PW C3 X2 I2 D2 R2 x0 x1 x2 x3 x4 x5 x6 x7 x8
  go_wp2
  go_ret
  exact ⟨rfl, RES.out, I3.out⟩
set_option maxRecDepth 100000 in
set_option maxHeartbeats 8000000 in
theorem c_heldST (h : HD) (ep : Int) (la : Option Addr) (ln lc : Nat) (su : Int) (fa : Option Addr) (fn fc : Nat) (F : List FF) (ha : Int) (w : World) (r : RdD w h (markD h)) (rl : RdQ w la ln (marksQ (mkQ h) ln)) (rf : RdF w fa fn (fMks (mkF h ln) F)) (f0 : h.n0 ≤ 1048576) (f1 : h.n1 ≤ 1048576) (f2 : h.n2 ≤ 1048576) (f3 : ln ≤ 1048576) (f4 : fn ≤ 1048576) (f5 : ∀ f ∈ F, f.h.n ≤ 1048576) :
    Calls Tryz.prog 43 #[.agg #[.slice h.a0 h.n0 h.c0, .slice h.a1 h.n1 h.c1, .bool h.b, .slice h.a2 h.n2 h.c2, .int .i64 ep, .slice la ln lc, .int .i64 su, .slice fa fn fc, .int .i64 ha], .int .i64 1] w fun e w' => e = .returned (.int .i64 (mkE h ln F : Nat)) ∧ Below w.heap.size w w' := by
  obtain ⟨V, hV⟩ : ∃ V, w.alloc (.cells #[.slice h.a0 h.n0 h.c0, .slice h.a1 h.n1 h.c1, .bool h.b, .slice h.a2 h.n2 h.c2, .int .i64 ep, .slice la ln lc, .int .i64 su, .slice fa fn fc, .int .i64 ha] 46) = V := ⟨_, rfl⟩
  have B0 : Hid (Below w.heap.size w V) := by unfold Hid; rw [← hV]; exact (Below.refl _ _).alloc (Nat.le_refl _) _
  have X0 : Hid (Box V w.heap.size 46 #[.slice h.a0 h.n0 h.c0, .slice h.a1 h.n1 h.c1, .bool h.b, .slice h.a2 h.n2 h.c2, .int .i64 ep, .slice la ln lc, .int .i64 su, .slice fa fn fc, .int .i64 ha]) := by unfold Hid; rw [← hV]; exact Box.new _ _ _
  have hmk := markN_le f0 f1 f2
  have C1 := c_heldDisk h V (r.below B0.out) f0 f1 f2
  have C2 : Hid (∀ W, Below w.heap.size w W → Calls Tryz.prog 108 #[.slice la ln lc, .int .i64 (markN h : Nat)] W fun e w' => e = .returned (.int .i64 (markN h + ln * 10 : Nat)) ∧ Below W.heap.size W w') := fun W hW => c_heldQ2 la ln lc (markN h) W (rl.below hW) (by omega) (by omega) (by omega)
  have C3 : Hid (∀ (x : Int) W, x = ((mkF h ln : Nat) : Int) → Below w.heap.size w W → Calls Tryz.prog 109 #[.slice fa fn fc, .int .i64 x] W fun e w' => e = .returned (.int .i64 (fEnd (mkF h ln) F : Nat)) ∧ Below W.heap.size W w') := fun x W hx hW => by subst hx; exact c_heldF fa fn fc (mkF h ln) F W (rf.below hW) (by unfold mkF; omega) (by unfold mkF; omega) f4 f5
  clear r rl rf f5
  obtain ⟨x0, x1, x2, x3, x4, x5, x6, x7, x8⟩ := box9 X0.out
  go_enter Tryz.func43, Tryz.ntmps43
  go_wp2_with fail
  refine C1.mono ?_
  rintro e w1 ⟨rfl, hb⟩
  have B1 : Hid (Below w.heap.size w w1) := B0.out.trans (hb.mono B0.out.size)
  have X1 : Hid (Box w1 w.heap.size 46 #[.slice h.a0 h.n0 h.c0, .slice h.a1 h.n1 h.c1, .bool h.b, .slice h.a2 h.n2 h.c2, .int .i64 ep, .slice la ln lc, .int .i64 su, .slice fa fn fc, .int .i64 ha]) := X0.out.belowS hb
  clear hb X0 B0 C1 hV x0 x1 x2 x3 x4 x5 x6 x7 x8
  obtain ⟨x0, x1, x2, x3, x4, x5, x6, x7, x8⟩ := box9 X1.out
  have c1 : ¬ ((markN h : Nat) : Int) < 0 := by omega
  go_wp2_with fail
  refine (C2.out w1 B1.out).mono ?_
  rintro e w2 ⟨rfl, hb⟩
  have B2 : Hid (Below w.heap.size w w2) := B1.out.trans (hb.mono B1.out.size)
  have X2 : Hid (Box w2 w.heap.size 46 #[.slice h.a0 h.n0 h.c0, .slice h.a1 h.n1 h.c1, .bool h.b, .slice h.a2 h.n2 h.c2, .int .i64 ep, .slice la ln lc, .int .i64 su, .slice fa fn fc, .int .i64 ha]) := X1.out.belowS hb
  clear hb X1 B1 C2 x0 x1 x2 x3 x4 x5 x6 x7 x8
  obtain ⟨x0, x1, x2, x3, x4, x5, x6, x7, x8⟩ := box9 X2.out
  go_wp2_with fail
  refine (C3.out _ w2 (by unfold mkF; omega) B2.out).mono ?_
  rintro e w3 ⟨rfl, hb⟩
  have B3 : Hid (Below w.heap.size w w3) := B2.out.trans (hb.mono B2.out.size)
  obtain ⟨z, hz⟩ : ∃ z, z = fEnd (mkF h ln) F := ⟨_, rfl⟩
  rw [← hz]
  have HZ : Hid ((z : Nat) = mkE h ln F) := hz
  clear hb X2 B2 C3 hz x0 x1 x2 x3 x4 x5 x6 x7 x8
  go_wp2
  go_ret
  exact ⟨ret_int2 (by rw [HZ.out]), B3.out⟩

end Go.Proofs.YtfibdpfhfgnbiaaGreatDoor
