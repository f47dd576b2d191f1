/-
  Right stores: the walk of the program's StoreOK.
-/
import Derived.Test.YtkpopingbbaomaaGreatDoorYndq
import Derived.Test.YtkpopingbbaomaaGreatDoorZzar
import Derived.Test.YtkpopingbbaomaaGreatDoorZzap
import Derived.Test.YtkpopingbbaomaaGreatDoorZzag
namespace Go.Proofs.YtkpopingbbaomaaGreatDoor
open Go Go.RowKit
attribute [local go_sem ↓] Go.wp_at_zero Go.wp_at_succ

theorem fMks_get : ∀ (F : List FF) (k i : Nat), i < F.length → (fMks k F).getD i zeroF = fMk1 (fEnd k (F.take i)) (F.getD i zeroF)
  | [], _, _, h => absurd h (by simp)
  | f :: F, k, 0, _ => by simp [fMks, fEnd]
  | f :: F, k, i + 1, h => by
    have ih := fMks_get F (fNxt k f) i (by simpa using h)
    show (fMk1 k f :: fMks (fNxt k f) F).getD (i + 1) zeroF = fMk1 (fEnd (fNxt k f) (F.take i)) ((f :: F).getD (i + 1) zeroF)
    simpa using ih
set_option maxRecDepth 100000 in
set_option maxHeartbeats 8000000 in
theorem c_heldF (a : Option Addr) (n cap k0 : Nat) (F : List FF) (w : World) (hr : RdF w a n (fMks k0 F)) (h1 : 1 ≤ k0) (hk : k0 ≤ 4398046511104) (hn : n ≤ 1048576) (hs : ∀ f ∈ F, f.h.n ≤ 1048576) :
    Calls Tryz.prog 109 #[.slice a n cap, .int .i64 k0] w fun e w' => e = .returned (.int .i64 (fEnd k0 F : Nat)) ∧ Below w.heap.size w w' := by
  obtain ⟨hl, hcs, hpg⟩ := hr
  rw [fMks_len] at hl
  have HPG : Hid (∀ i, i < n → G.RdG w ((fMks k0 F).getD i zeroF).h ((fMks k0 F).getD i zeroF).D) := hpg
  have HS : Hid (∀ f ∈ F, f.h.n ≤ 1048576) := hs
  clear hpg hs
  go_enter Tryz.func109, Tryz.ntmps109
  go_wp2
  go_loopw [1, 5] (fun m i wr => ∃ q : Nat, q ≤ n ∧ i = .int .i64 q ∧ m = .int .i64 ((fEnd k0 (F.take q) : Nat) : Int) ∧ Hid (Below w.heap.size w wr)) (fun _ i _ => n - (intOf i).toNat)
  case atStart => exact ⟨0, by omega, rfl, rfl, Below.refl _ _⟩
  case round =>
    obtain ⟨q, hq, rfl, rfl, HB⟩ := hrel
    by_cases hlt : q < n
    · obtain ⟨b, off, rfl, hbl, hc⟩ := hcs (by omega)
      obtain ⟨d0, d1, d2, d3, d4⟩ := hc q hlt
      have RG := (HPG.out q hlt).below HB.out
      have hg := fMks_get F k0 q (by omega)
      obtain ⟨f, hf⟩ : ∃ f, f = F.getD q zeroF := ⟨_, rfl⟩
      obtain ⟨k, hkk⟩ : ∃ k, k = fEnd k0 (F.take q) := ⟨_, rfl⟩
      have hfm : f.h.n ≤ 1048576 := HS.out f (by rw [hf, List.getD_eq_getElem?_getD, List.getElem?_eq_getElem (by omega)]; simp)
      have hke := fEnd_le (F.take q) k0 (fun f hf => HS.out f (List.mem_of_mem_take hf))
      rw [← hkk, List.length_take, Nat.min_eq_left (by omega)] at hke
      have hke1 := hke.1
      have hke2 := hke.2
      have HEND : Hid (fEnd k0 (F.take (q + 1)) = k + 4 + f.h.n) := by unfold Hid; rw [fEnd_step F k0 q (by omega), ← hkk, ← hf]; rfl
      rw [hg, ← hkk, ← hf] at d0 d1 d2 d3 d4 RG
      rw [← hkk]
      have hb := HB.out
      have e0 := (hb.cell (p := ⟨b, off + q * 5, none⟩) hbl).trans d0
      have e1 := (hb.cell (p := ⟨b, off + q * 5 + 1, none⟩) hbl).trans d1
      have e2 := (hb.cell (p := ⟨b, off + q * 5 + 2, none⟩) hbl).trans d2
      have e3 := (hb.cell (p := ⟨b, off + q * 5 + 3, none⟩) hbl).trans d3
      have e4 := (hb.cell (p := ⟨b, off + q * 5 + 4, none⟩) hbl).trans d4
      clear hc hcs hke hkk hf hg hb d0 d1 d2 d3 d4
      obtain ⟨fno, ⟨fl, fa, fn, fc⟩, fD, fd, ffi⟩ := f
      simp only [fMk1] at *
      have RV : RdV wr fa fn (marksS (k + 2) fn) := by have := RG.2; rwa [marksT_eq] at this
      have C : Hid (∀ x : Int, x = ((k + 2 : Nat) : Int) → Calls Tryz.prog 194 #[.slice fa fn fc, .int .i64 x] wr fun e w' => e = .returned (.int .i64 (k + 2 + fn : Nat)) ∧ Below wr.heap.size wr w') := fun x hx => by subst hx; exact c_heldS2 fa fn fc (k + 2) wr RV (by omega) (by omega) (by omega)
      clear RG RV
      have n1 : ((k : Int) != (k : Int)) = false := by simp
      have n2 : ((k : Int) + 1 != (k : Int) + 1) = false := by simp
      have g1 : (0 : Int) ≤ (q : Int) := by omega
      have g2 : (q : Int) < (n : Int) := by omega
      go_wp2_with fail
      refine (C.out _ (by omega)).mono ?_
      rintro e w1 ⟨rfl, hb1⟩
      have B1 : Hid (Below w.heap.size w w1) := HB.out.trans (hb1.mono HB.out.size)
      have j3 : w1.cell? ⟨b, off + q * 5 + 3, none⟩ = some (.bool (decide (((k : Int) + 2 + (fn : Int)) % 3 = 0))) := far6 hb1 e3
      have j4 : w1.cell? ⟨b, off + q * 5 + 4, none⟩ = some (.int .i64 ((k : Int) + 2 + (fn : Int) + 1)) := far6 hb1 e4
      clear hb1 e0 e1 e2 e3 e4 C HB
      have cb : (((k : Int) + 2 + (fn : Int)) % 3 == 0) = decide (((k : Int) + 2 + (fn : Int)) % 3 = 0) := by rw [Bool.eq_iff_iff]; simp
      obtain ⟨db, hdb⟩ : ∃ db, db = decide (((k : Int) + 2 + (fn : Int)) % 3 = 0) := ⟨_, rfl⟩
      rw [← hdb] at j3 cb
      have n3 : (db != db) = false := by simp
      go_wp2
      go_roundw
      case rel => exact ⟨q + 1, by omega, by go_num, by rw [HEND.out]; go_num, B1⟩
      case measure => simp [intOf]; omega
    · have e : q = n := by omega
      subst e
      have HT : Hid (F.take q = F) := List.take_of_length_le (by omega)
      go_wp2
      go_ret
      exact ⟨by rw [HT.out]; rfl, HB.out⟩

end Go.Proofs.YtkpopingbbaomaaGreatDoor
namespace Go.Proofs.YtkpopingbbaomaaGreatDoor
open Go Go.RowKit
attribute [local go_sem ↓] Go.wp_at_zero Go.wp_at_succ

def okPg (T : Nat → ByteArray) (sure : Int) (p : Nat) : Bool := match pgO p (T (1 + p)) with | some P => decide (P.L ≤ sure) | none => false
theorem okPg_none {T : Nat → ByteArray} {sure : Int} {p : Nat} (h : pgO p (T (1 + p)) = none) : okPg T sure p = false := by unfold okPg; rw [h]
theorem okPg_some {T : Nat → ByteArray} {sure : Int} {p : Nat} {P : G.DG} (h : pgO p (T (1 + p)) = some P) : okPg T sure p = decide (P.L ≤ sure) := by unfold okPg; rw [h]
def hasPg (T : Nat → ByteArray) (sure : Int) : Bool := (List.range 8).all (okPg T sure)
theorem hasPg_no {T : Nat → ByteArray} {sure : Int} {p : Nat} (hp : p < 8) (h : okPg T sure p = false) : hasPg T sure = false := by
  unfold hasPg; rw [List.all_eq_false]; exact ⟨p, List.mem_range.2 hp, by rw [h]; exact Bool.noConfusion⟩
theorem hasPg_yes {T : Nat → ByteArray} {sure : Int} (h : ∀ p, p < 8 → okPg T sure p = true) : hasPg T sure = true := by
  unfold hasPg; rw [List.all_eq_true]; exact fun p hp => h p (List.mem_range.1 hp)
set_option maxRecDepth 100000 in
set_option maxHeartbeats 4000000 in
theorem c_hasPages (h : HD) (D : DD) (sure : Int) (w : World) (r : RdD w h D) (hok : okD D = true) (hn : 9 ≤ h.n0) (ht : TabH w) :
    Calls Tryz.prog 130 #[.agg #[.slice h.a0 h.n0 h.c0, .slice h.a1 h.n1 h.c1, .bool h.b, .slice h.a2 h.n2 h.c2], .int .i64 sure] w fun e w' => e = .returned (.bool (hasPg (rdS D.S D.C) sure)) ∧ Below w.heap.size w w' := by
  obtain ⟨V, hV⟩ : ∃ V, w.alloc (.cells #[.slice h.a0 h.n0 h.c0, .slice h.a1 h.n1 h.c1, .bool h.b, .slice h.a2 h.n2 h.c2] 42) = V := ⟨_, rfl⟩
  have HB : Hid (Below w.heap.size w V) := by unfold Hid; rw [← hV]; exact (Below.refl _ _).alloc (Nat.le_refl _) _
  have X : Hid (Box V w.heap.size 42 #[.slice h.a0 h.n0 h.c0, .slice h.a1 h.n1 h.c1, .bool h.b, .slice h.a2 h.n2 h.c2]) := by unfold Hid; rw [← hV]; exact Box.new _ _ _
  have R : Hid (RdD w h D) := r
  have OK : Hid (okD D = true) := hok
  have HT : Hid (TabH w) := ht
  clear r hok ht
  go_enter Tryz.func130, Tryz.ntmps130
  go_wp2
  go_loopw [8] (fun i wr => ∃ k : Nat, k ≤ 8 ∧ i = .int .i64 k ∧ Hid (∀ p, p < k → okPg (rdS D.S D.C) sure p = true) ∧ Hid (Box wr w.heap.size 42 #[.slice h.a0 h.n0 h.c0, .slice h.a1 h.n1 h.c1, .bool h.b, .slice h.a2 h.n2 h.c2]) ∧ Hid (Below w.heap.size w wr)) (fun i _ => 8 - (intOf i).toNat)
  case atStart => exact ⟨0, by omega, rfl, (fun p hp => absurd hp (by omega)), X, HB⟩
  case round =>
    clear X HB hV
    obtain ⟨k, hk, rfl, HA, XW, BW⟩ := hrel
    by_cases hlt : k < 8
    · obtain ⟨x0, x1, x2, x3⟩ := box4 XW.out
      have g2 : (k : Int) < 8 := by omega
      go_wp2_with fail
      refine (c_readDP h D k wr (R.out.below BW.out) OK.out (by omega) (HT.out.below BW.out)).mono ?_
      rintro e w2 ⟨⟨h2, c, rfl, hc, hP⟩, hb2⟩
      have B2 : Hid (Below w.heap.size w w2) := BW.out.trans (hb2.mono BW.out.size)
      have X2 : Hid (Box w2 w.heap.size 42 #[.slice h.a0 h.n0 h.c0, .slice h.a1 h.n1 h.c1, .bool h.b, .slice h.a2 h.n2 h.c2]) := XW.out.belowS hb2
      clear hb2 XW BW x0 x1 x2 x3
      obtain ⟨W, hW⟩ : ∃ W, w2.alloc (.cells #[.int .i64 h2.l, .slice h2.a h2.n h2.c] 140) = W := ⟨_, rfl⟩
      have HBW : Hid (Below w.heap.size w W) := by unfold Hid; rw [← hW]; exact B2.out.alloc B2.out.size _
      have XW : Hid (Box W w.heap.size 42 #[.slice h.a0 h.n0 h.c0, .slice h.a1 h.n1 h.c1, .bool h.b, .slice h.a2 h.n2 h.c2]) := by unfold Hid; rw [← hW]; exact X2.out.alloc _
      have NW : Hid (Box W w2.heap.size 140 #[.int .i64 h2.l, .slice h2.a h2.n h2.c]) := by unfold Hid; rw [← hW]; exact Box.new _ _ _
      obtain ⟨y0, y1⟩ := G.box2 NW.out
      cases hpg : pgO k (rdS D.S D.C (1 + k)) with
      | none =>
        have E : Hid (hasPg (rdS D.S D.C) sure = false) := hasPg_no hlt (okPg_none hpg)
        have hc0 : ¬ c = 0 := fun e => by have := hc.1 e; rw [hpg] at this; cases this
        have c1 : (c != 0) = true := by simpa using hc0
        clear hc hP hpg hc0
        go_wp2
        go_ret
        exact ⟨ret_bool E.out.symm, HBW.out⟩
      | some P =>
        have hc0 : c = 0 := hc.2 (by rw [hpg]; rfl)
        have HL : Hid (h2.l = P.L) := hP P hpg
        have HPG : Hid (okPg (rdS D.S D.C) sure k = decide (P.L ≤ sure)) := okPg_some hpg
        clear hc hP hpg
        subst hc0
        by_cases hs : sure < h2.l
        · have E : Hid (hasPg (rdS D.S D.C) sure = false) := hasPg_no hlt (by rw [HPG.out, ← HL.out]; exact decide_eq_false (by omega))
          go_wp2
          go_ret
          exact ⟨ret_bool E.out.symm, HBW.out⟩
        · have HA2 : Hid (∀ p, p < k + 1 → okPg (rdS D.S D.C) sure p = true) := fun p hp => by
            by_cases e : p = k
            · subst e; rw [HPG.out, ← HL.out]; exact decide_eq_true (by omega)
            · exact HA.out p (by omega)
          go_wp2
          go_roundw
          case rel => exact ⟨k + 1, by omega, by go_num, HA2, XW, HBW⟩
          case measure => simp [intOf]; omega
    · have e : k = 8 := by omega
      subst e
      have E : Hid (hasPg (rdS D.S D.C) sure = true) := hasPg_yes HA.out
      go_wp2
      go_ret
      exact ⟨ret_bool E.out.symm, BW.out⟩

end Go.Proofs.YtkpopingbbaomaaGreatDoor
namespace Go.Proofs.YtkpopingbbaomaaGreatDoor
open Go Go.RowKit
attribute [local go_sem ↓] Go.wp_at_zero Go.wp_at_succ

/-- A right store. -/
def okST (D : DD) (n0 : Nat) (ep : Int) (ln : Nat) (L : List DR) (su : Int) (fn : Nat) (F : List FF) (ha : Int) : Bool := okD D && (decide (n0 = 69) && (decide (1 ≤ ep) && (decide (ep ≤ 60) && (decide (ln ≤ 60) && (inPl 0 L && (ofEp ep 0 L && (decide (0 ≤ su) && (decide (su ≤ (ln : Int)) && ((decide (fn ≤ 3) && arF (ln : Int) [] F) && (decide (0 ≤ ha) && (decide (ha < 3) && (hasPg (rdS D.S D.C) su))))))))))))
theorem box9 {w : World} {g : Nat} {t : TypeId} {v0 v1 v2 v3 v4 v5 v6 v7 v8 : Value} (h : Box w g t #[v0, v1, v2, v3, v4, v5, v6, v7, v8]) : w.cell? ⟨g, 0, none⟩ = some v0 ∧ w.cell? ⟨g, 1, none⟩ = some v1 ∧ w.cell? ⟨g, 2, none⟩ = some v2 ∧ w.cell? ⟨g, 3, none⟩ = some v3 ∧ w.cell? ⟨g, 4, none⟩ = some v4 ∧ w.cell? ⟨g, 5, none⟩ = some v5 ∧ w.cell? ⟨g, 6, none⟩ = some v6 ∧ w.cell? ⟨g, 7, none⟩ = some v7 ∧ w.cell? ⟨g, 8, none⟩ = some v8 :=
  ⟨h.cell 0, h.cell 1, h.cell 2, h.cell 3, h.cell 4, h.cell 5, h.cell 6, h.cell 7, h.cell 8⟩
set_option maxRecDepth 100000 in
set_option maxHeartbeats 4000000 in
theorem c_implST (h : HD) (D : DD) (ep : Int) (la : Option Addr) (ln lc : Nat) (L : List DR) (su : Int) (fa : Option Addr) (fn fc : Nat) (F : List FF) (ha : Int) (w : World) (r : RdD w h D) (hf : Fit D) (rl : RdQ w la ln L) (hln : ln ≤ 1048576) (hls : ∀ v ∈ L, v.b.size ≤ maxLen ∧ v.a.size ≤ maxLen) (rf : RdF w fa fn F) (hfn : fn ≤ 1048576) (hfs : ∀ i, i < fn → G.FitG (F.getD i zeroF).D) (ht : TabH w) :
    Calls Tryz.prog 59 #[.agg #[.slice h.a0 h.n0 h.c0, .slice h.a1 h.n1 h.c1, .bool h.b, .slice h.a2 h.n2 h.c2, .int .i64 ep, .slice la ln lc, .int .i64 su, .slice fa fn fc, .int .i64 ha]] w fun e w' => e = .returned (.bool (okST D h.n0 ep ln L su fn F ha)) ∧ Below w.heap.size w w' := by
  obtain ⟨V, hV⟩ : ∃ V, w.alloc (.cells #[.slice h.a0 h.n0 h.c0, .slice h.a1 h.n1 h.c1, .bool h.b, .slice h.a2 h.n2 h.c2, .int .i64 ep, .slice la ln lc, .int .i64 su, .slice fa fn fc, .int .i64 ha] 46) = V := ⟨_, rfl⟩
  have B0 : Hid (Below w.heap.size w V) := by unfold Hid; rw [← hV]; exact (Below.refl _ _).alloc (Nat.le_refl _) _
  have X0 : Hid (Box V w.heap.size 46 #[.slice h.a0 h.n0 h.c0, .slice h.a1 h.n1 h.c1, .bool h.b, .slice h.a2 h.n2 h.c2, .int .i64 ep, .slice la ln lc, .int .i64 su, .slice fa fn fc, .int .i64 ha]) := by unfold Hid; rw [← hV]; exact Box.new _ _ _
  have C1 : Hid (∀ W, Below w.heap.size w W → Calls Tryz.prog 126 #[.agg #[.slice h.a0 h.n0 h.c0, .slice h.a1 h.n1 h.c1, .bool h.b, .slice h.a2 h.n2 h.c2]] W fun e w' => e = .returned (.bool (okD D)) ∧ Below W.heap.size W w') := fun W hW => c_implOK h D W (r.below hW) hf
  have C2 : Hid (ln ≤ 60 → ∀ W, Below w.heap.size w W → Calls Tryz.prog 127 #[.slice la ln lc] W fun e w' => e = .returned (.bool (inPl 0 L)) ∧ Below W.heap.size W w') := fun h60 W hW => c_inPlace la ln lc L W (rl.below hW) (by omega) hls
  have C3 : Hid (ln ≤ 60 → ∀ W, Below w.heap.size w W → Calls Tryz.prog 128 #[.slice la ln lc, .int .i64 ep] W fun e w' => e = .returned (.bool (ofEp ep 0 L)) ∧ Below W.heap.size W w') := fun h60 W hW => c_ofEpochs la ln lc L ep W (rl.below hW) (by omega)
  have C4 : Hid (∀ W, Below w.heap.size w W → Calls Tryz.prog 129 #[.slice fa fn fc, .int .i64 (ln : Int)] W fun e w' => e = .returned (.bool (decide (fn ≤ 3) && arF (ln : Int) [] F)) ∧ Below W.heap.size W w') := fun W hW => c_areFrames fa fn fc F ln W (rf.below hW) hfn hfs
  have C5 : Hid (okD D = true → h.n0 = 69 → ∀ W, Below w.heap.size w W → Calls Tryz.prog 130 #[.agg #[.slice h.a0 h.n0 h.c0, .slice h.a1 h.n1 h.c1, .bool h.b, .slice h.a2 h.n2 h.c2], .int .i64 su] W fun e w' => e = .returned (.bool (hasPg (rdS D.S D.C) su)) ∧ Below W.heap.size W w') := fun hok h69 W hW => c_hasPages h D su W (r.below hW) hok (by omega) (ht.below hW)
  clear r hf rl hls rf hfs ht
  obtain ⟨x0, x1, x2, x3, x4, x5, x6, x7, x8⟩ := box9 X0.out
  go_enter Tryz.func59, Tryz.ntmps59
  go_wp2_with fail
  refine (C1.out V B0.out).mono ?_
  rintro e w1 ⟨rfl, hb⟩
  have B1 : Hid (Below w.heap.size w w1) := B0.out.trans (hb.mono B0.out.size)
  have X1 : Hid (Box w1 w.heap.size 46 #[.slice h.a0 h.n0 h.c0, .slice h.a1 h.n1 h.c1, .bool h.b, .slice h.a2 h.n2 h.c2, .int .i64 ep, .slice la ln lc, .int .i64 su, .slice fa fn fc, .int .i64 ha]) := X0.out.belowS hb
  clear hb X0 B0 x0 x1 x2 x3 x4 x5 x6 x7 x8
  obtain ⟨x0, x1, x2, x3, x4, x5, x6, x7, x8⟩ := box9 X1.out
  clear hV
  cases hok : okD D
  · have E : Hid (okST D h.n0 ep ln L su fn F ha = false) := by unfold Hid okST; rw [hok]; rfl
    clear hok
    go_wp2
    go_ret
    exact ⟨ret_bool E.out.symm, B1.out⟩
  have Khok : Hid (okD D = true) := hok
  clear hok
  by_cases h69 : h.n0 = 69
  case neg =>
    have E : Hid (okST D h.n0 ep ln L su fn F ha = false) := by unfold Hid okST; rw [Khok.out, decide_eq_false h69]; rfl
    have c1 : ((h.n0 : Int) != 69) = true := by simp; omega
    go_wp2
    go_ret
    exact ⟨ret_bool E.out.symm, B1.out⟩
  have Kh69 : Hid (decide (h.n0 = 69) = true) := decide_eq_true h69
  have c1 : ((h.n0 : Int) != 69) = false := by simp; omega
  have H69 : Hid (h.n0 = 69) := h69
  clear h69
  by_cases he1 : 1 ≤ ep
  case neg =>
    have E : Hid (okST D h.n0 ep ln L su fn F ha = false) := by unfold Hid okST; rw [Khok.out, Kh69.out, decide_eq_false he1]; rfl
    go_wp2
    go_ret
    exact ⟨ret_bool E.out.symm, B1.out⟩
  have Khe1 : Hid (decide (1 ≤ ep) = true) := decide_eq_true he1
  by_cases he2 : ep ≤ 60
  case neg =>
    have E : Hid (okST D h.n0 ep ln L su fn F ha = false) := by unfold Hid okST; rw [Khok.out, Kh69.out, Khe1.out, decide_eq_false he2]; rfl
    go_wp2
    go_ret
    exact ⟨ret_bool E.out.symm, B1.out⟩
  have Khe2 : Hid (decide (ep ≤ 60) = true) := decide_eq_true he2
  by_cases hl : ln ≤ 60
  case neg =>
    have E : Hid (okST D h.n0 ep ln L su fn F ha = false) := by unfold Hid okST; rw [Khok.out, Kh69.out, Khe1.out, Khe2.out, decide_eq_false hl]; rfl
    go_wp2
    go_ret
    exact ⟨ret_bool E.out.symm, B1.out⟩
  have Khl : Hid (decide (ln ≤ 60) = true) := decide_eq_true hl
  go_wp2_with fail
  refine (C2.out hl w1 B1.out).mono ?_
  rintro e w2 ⟨rfl, hb⟩
  have B2 : Hid (Below w.heap.size w w2) := B1.out.trans (hb.mono B1.out.size)
  have X2 : Hid (Box w2 w.heap.size 46 #[.slice h.a0 h.n0 h.c0, .slice h.a1 h.n1 h.c1, .bool h.b, .slice h.a2 h.n2 h.c2, .int .i64 ep, .slice la ln lc, .int .i64 su, .slice fa fn fc, .int .i64 ha]) := X1.out.belowS hb
  clear hb X1 B1 x0 x1 x2 x3 x4 x5 x6 x7 x8
  obtain ⟨x0, x1, x2, x3, x4, x5, x6, x7, x8⟩ := box9 X2.out
  cases hin : inPl 0 L
  · have E : Hid (okST D h.n0 ep ln L su fn F ha = false) := by unfold Hid okST; rw [Khok.out, Kh69.out, Khe1.out, Khe2.out, Khl.out, hin]; rfl
    clear hin
    go_wp2
    go_ret
    exact ⟨ret_bool E.out.symm, B2.out⟩
  have Khin : Hid (inPl 0 L = true) := hin
  clear hin
  go_wp2_with fail
  refine (C3.out hl w2 B2.out).mono ?_
  rintro e w3 ⟨rfl, hb⟩
  have B3 : Hid (Below w.heap.size w w3) := B2.out.trans (hb.mono B2.out.size)
  have X3 : Hid (Box w3 w.heap.size 46 #[.slice h.a0 h.n0 h.c0, .slice h.a1 h.n1 h.c1, .bool h.b, .slice h.a2 h.n2 h.c2, .int .i64 ep, .slice la ln lc, .int .i64 su, .slice fa fn fc, .int .i64 ha]) := X2.out.belowS hb
  clear hb X2 B2 x0 x1 x2 x3 x4 x5 x6 x7 x8
  obtain ⟨x0, x1, x2, x3, x4, x5, x6, x7, x8⟩ := box9 X3.out
  cases hof : ofEp ep 0 L
  · have E : Hid (okST D h.n0 ep ln L su fn F ha = false) := by unfold Hid okST; rw [Khok.out, Kh69.out, Khe1.out, Khe2.out, Khl.out, Khin.out, hof]; rfl
    clear hof
    go_wp2
    go_ret
    exact ⟨ret_bool E.out.symm, B3.out⟩
  have Khof : Hid (ofEp ep 0 L = true) := hof
  clear hof
  by_cases hs1 : 0 ≤ su
  case neg =>
    have E : Hid (okST D h.n0 ep ln L su fn F ha = false) := by unfold Hid okST; rw [Khok.out, Kh69.out, Khe1.out, Khe2.out, Khl.out, Khin.out, Khof.out, decide_eq_false hs1]; rfl
    go_wp2
    go_ret
    exact ⟨ret_bool E.out.symm, B3.out⟩
  have Khs1 : Hid (decide (0 ≤ su) = true) := decide_eq_true hs1
  by_cases hs2 : su ≤ (ln : Int)
  case neg =>
    have E : Hid (okST D h.n0 ep ln L su fn F ha = false) := by unfold Hid okST; rw [Khok.out, Kh69.out, Khe1.out, Khe2.out, Khl.out, Khin.out, Khof.out, Khs1.out, decide_eq_false hs2]; rfl
    go_wp2
    go_ret
    exact ⟨ret_bool E.out.symm, B3.out⟩
  have Khs2 : Hid (decide (su ≤ (ln : Int)) = true) := decide_eq_true hs2
  go_wp2_with fail
  refine (C4.out w3 B3.out).mono ?_
  rintro e w4 ⟨rfl, hb⟩
  have B4 : Hid (Below w.heap.size w w4) := B3.out.trans (hb.mono B3.out.size)
  have X4 : Hid (Box w4 w.heap.size 46 #[.slice h.a0 h.n0 h.c0, .slice h.a1 h.n1 h.c1, .bool h.b, .slice h.a2 h.n2 h.c2, .int .i64 ep, .slice la ln lc, .int .i64 su, .slice fa fn fc, .int .i64 ha]) := X3.out.belowS hb
  clear hb X3 B3 x0 x1 x2 x3 x4 x5 x6 x7 x8
  obtain ⟨x0, x1, x2, x3, x4, x5, x6, x7, x8⟩ := box9 X4.out
  cases hfr : (decide (fn ≤ 3) && arF (ln : Int) [] F)
  · have E : Hid (okST D h.n0 ep ln L su fn F ha = false) := by unfold Hid okST; rw [Khok.out, Kh69.out, Khe1.out, Khe2.out, Khl.out, Khin.out, Khof.out, Khs1.out, Khs2.out, hfr]; rfl
    clear hfr
    go_wp2
    go_ret
    exact ⟨ret_bool E.out.symm, B4.out⟩
  have Khfr : Hid ((decide (fn ≤ 3) && arF (ln : Int) [] F) = true) := hfr
  clear hfr
  by_cases ha1 : 0 ≤ ha
  case neg =>
    have E : Hid (okST D h.n0 ep ln L su fn F ha = false) := by unfold Hid okST; rw [Khok.out, Kh69.out, Khe1.out, Khe2.out, Khl.out, Khin.out, Khof.out, Khs1.out, Khs2.out, Khfr.out, decide_eq_false ha1]; rfl
    go_wp2
    go_ret
    exact ⟨ret_bool E.out.symm, B4.out⟩
  have Kha1 : Hid (decide (0 ≤ ha) = true) := decide_eq_true ha1
  by_cases ha2 : ha < 3
  case neg =>
    have E : Hid (okST D h.n0 ep ln L su fn F ha = false) := by unfold Hid okST; rw [Khok.out, Kh69.out, Khe1.out, Khe2.out, Khl.out, Khin.out, Khof.out, Khs1.out, Khs2.out, Khfr.out, Kha1.out, decide_eq_false ha2]; rfl
    go_wp2
    go_ret
    exact ⟨ret_bool E.out.symm, B4.out⟩
  have Kha2 : Hid (decide (ha < 3) = true) := decide_eq_true ha2
  go_wp2_with fail
  refine (C5.out Khok.out H69.out w4 B4.out).mono ?_
  rintro e w5 ⟨rfl, hb⟩
  have B5 : Hid (Below w.heap.size w w5) := B4.out.trans (hb.mono B4.out.size)
  have X5 : Hid (Box w5 w.heap.size 46 #[.slice h.a0 h.n0 h.c0, .slice h.a1 h.n1 h.c1, .bool h.b, .slice h.a2 h.n2 h.c2, .int .i64 ep, .slice la ln lc, .int .i64 su, .slice fa fn fc, .int .i64 ha]) := X4.out.belowS hb
  clear hb X4 B4 x0 x1 x2 x3 x4 x5 x6 x7 x8
  obtain ⟨x0, x1, x2, x3, x4, x5, x6, x7, x8⟩ := box9 X5.out
  have E : Hid (okST D h.n0 ep ln L su fn F ha = hasPg (rdS D.S D.C) su) := by unfold Hid okST; rw [Khok.out, Kh69.out, Khe1.out, Khe2.out, Khl.out, Khin.out, Khof.out, Khs1.out, Khs2.out, Khfr.out, Kha1.out, Kha2.out]; rfl
  go_wp2
  go_ret
  exact ⟨ret_bool E.out.symm, B5.out⟩

end Go.Proofs.YtkpopingbbaomaaGreatDoor
