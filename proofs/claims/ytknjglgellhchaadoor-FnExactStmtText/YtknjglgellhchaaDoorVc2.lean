/-
  StmtText: the specification, by the ways through it.
-/
import Derived.Test.YtknjglgellhchaaDoorVb0
import Derived.Test.YtknjglgellhchaaDoorTc
import Derived.Test.YtknjglgellhchaaDoorVt
import Derived.Test.YtknjglgellhchaaDoorSa
import Derived.Deep.RegionHeld3
import Derived.Deep.DrawnRows
import Derived.BigQuiet
import Derived.Deep.QuietTactic
import Derived.Deep.RegionWith
import Derived.Deep.DeepCutAuto
import Derived.Deep.CutRange
namespace Go.Proofs.YtknjglgellhchaaDoor
open Go Go.RowKit
attribute [local go_sem ↓] Go.wp_at_zero Go.wp_at_succ

set_option linter.unusedVariables false
set_option linter.unusedSimpArgs false
set_option maxRecDepth 100000 in
set_option maxHeartbeats 8000000 in
theorem c_stS_S00 (tb i : Int) (u v : VV) (c : Int) (sa : Option Addr) (sn sc : Nat) (wa : Option Addr) (wn wc : Nat) (LS LW : List EN) (w : World) (h1 : u.2.2.size ≤ maxLen) (h2 : v.2.2.size ≤ maxLen) (s2 : RdE w sa sn LS) (hs : sn ≤ 1048576) (s3 : ∀ x ∈ LS, x.t.size ≤ maxLen) (w2 : RdE w wa wn LW) (hw : wn ≤ 1048576) (w3 : ∀ x ∈ LW, x.t.size ≤ maxLen) (htb : 1 ≤ tb ∧ tb ≤ 3) (hst : stB 1 tb (rowZ i u v) (rowB i u v) c sn (okX LS sn) wn (okX LW wn) 0 false = true) (hwn : (wn == 0) = true) :
    Calls Tryd.prog 40 #[.agg #[.int .i64 1, .int .i64 tb, .int .i64 i, .int .i64 u.1, .int .i64 u.2.1, .string u.2.2, .int .i64 v.1, .int .i64 v.2.1, .string v.2.2, .int .i64 c, .slice sa sn sc, .slice wa wn wc, .int .i64 0, .bool false]] w fun e w' => e = .returned (.string (joinS [⟨#[115, 101, 108, 101, 99, 116]⟩, itB tb])) ∧ Below w.heap.size w w' := by
  obtain ⟨V, hV⟩ : ∃ W, w.alloc (.cells #[.int .i64 1, .int .i64 tb, .int .i64 i, .int .i64 u.1, .int .i64 u.2.1, .string u.2.2, .int .i64 v.1, .int .i64 v.2.1, .string v.2.2, .int .i64 c, .slice sa sn sc, .slice wa wn wc, .int .i64 0, .bool false] 52) = W := ⟨_, rfl⟩
  have BV : Hid (Below w.heap.size w V) := by unfold Hid; rw [← hV]; exact (Below.refl _ _).alloc (Nat.le_refl _) _
  have XV : Hid (Box V w.heap.size 52 #[.int .i64 1, .int .i64 tb, .int .i64 i, .int .i64 u.1, .int .i64 u.2.1, .string u.2.2, .int .i64 v.1, .int .i64 v.2.1, .string v.2.2, .int .i64 c, .slice sa sn sc, .slice wa wn wc, .int .i64 0, .bool false]) := by unfold Hid; rw [← hV]; exact Box.new _ _ _
  have HS : Hid (RdE V sa sn LS) := s2.below BV.out
  have HW : Hid (RdE V wa wn LW) := w2.below BV.out
  have S3 : Hid (∀ x ∈ LS, x.t.size ≤ maxLen) := s3
  have W3 : Hid (∀ x ∈ LW, x.t.size ≤ maxLen) := w3
  have zS : (xtS LS sn).size ≤ 1200 := xtS_size s2.1 s3
  have zW : (xtS LW wn).size ≤ 1200 := xtS_size w2.1 w3
  have zI : (itB tb).size ≤ 21 := itB_size (by omega) (by omega)
  have HI : Hid (∀ W : World, Calls Tryd.prog 80 #[.int .i64 tb] W fun e w' => e = .returned (.string (itB tb)) ∧ Below W.heap.size W w') := fun W => c_dig tb W (by omega) (by omega)
  have CN : Hid (∀ W : World, Calls Tryd.prog 79 #[.agg #[.slice wa wn wc]] W fun e w' => e = .returned (.bool true) ∧ Below W.heap.size W w') := fun W => by have h := c_none wa wn wc W; rw [hwn] at h; exact h
  obtain ⟨sI, hsI⟩ : ∃ s, itB tb = s := ⟨_, rfl⟩
  rw [hsI] at HI zI ⊢
  obtain ⟨sW, hsW⟩ : ∃ s, xtS LW wn = s := ⟨_, rfl⟩
  rw [hsW] at zW
  obtain ⟨sS, hsS⟩ : ∃ s, xtS LS sn = s := ⟨_, rfl⟩
  rw [hsS] at zS
  have E : Hid (joinS [⟨#[115, 101, 108, 101, 99, 116]⟩, sI] = ⟨#[115, 101, 108, 101, 99, 116]⟩ ++ ⟨#[32]⟩ ++ sI) := by
    apply ba_eq
    simp [joinS, Lib.join_cons, Lib.joinTail, ByteArray.data_append]
  rw [E.out]
  have LV : Hid (Below V.heap.size V V) := Below.refl _ _
  clear hst s2 s3 w2 w3 hsI hsW hsS E
  go_enter Tryd.func40, Tryd.ntmps40
  have lV : w.heap.size < V.heap.size := XV.out.lt
  go_upto_region 1 with fail
  have x0 : V.cell? ⟨w.heap.size, 0, none⟩ = some (.int .i64 1) := (XV.out.belowS LV.out).cell 0
  have x1 : V.cell? ⟨w.heap.size, 1, none⟩ = some (.int .i64 tb) := (XV.out.belowS LV.out).cell 1
  go_cut [3] (fun s wx => s = .string (⟨#[115, 101, 108, 101, 99, 116]⟩ ++ ⟨#[32]⟩ ++ sI) ∧ Hid (Below V.heap.size V wx))
  case first =>
    go_region_with ((go_at_call 80; refine (HI.out _).mono ?_; rintro e w2 ⟨rfl, hb2⟩; have Lw2 : Below V.heap.size V w2 := (by first | exact (Below.refl V.heap.size V).drew.trans hb2 | exact ((Below.refl V.heap.size V).alloc (Nat.le_refl _) _).drew.trans (hb2.mono (by simp)) | exact hb2 | trace_state); have y0 : w2.cell? ⟨w.heap.size, 0, none⟩ = some (.int .i64 1) := (XV.out.belowS Lw2).cell 0; have y1 : w2.cell? ⟨w.heap.size, 1, none⟩ = some (.int .i64 tb) := (XV.out.belowS Lw2).cell 1; have lw2 : w.heap.size < w2.heap.size := (XV.out.belowS Lw2).lt; first | (have kn : w2.cell? ⟨V.heap.size, 1, none⟩ = some (.string ⟨#[115, 101, 108, 101, 99, 116]⟩) := far6 hb2 (show (V.alloc (.cells #[.string ⟨#[]⟩, .string ⟨#[115, 101, 108, 101, 99, 116]⟩, .string ⟨#[105, 110, 115, 101, 114, 116]⟩, .string ⟨#[117, 112, 100, 97, 116, 101]⟩, .string ⟨#[100, 101, 108, 101, 116, 101]⟩] 9)).cell? ⟨V.heap.size, 1, none⟩ = some (.string ⟨#[115, 101, 108, 101, 99, 116]⟩) from (Box.new V #[.string ⟨#[]⟩, .string ⟨#[115, 101, 108, 101, 99, 116]⟩, .string ⟨#[105, 110, 115, 101, 114, 116]⟩, .string ⟨#[117, 112, 100, 97, 116, 101]⟩, .string ⟨#[100, 101, 108, 101, 116, 101]⟩] 9).cell 1)) | skip))
    all_goals
      go_wp2_with fail
      go_meet
      exact ⟨rfl, by unfold Hid; (first | exact Lw2 | exact Lw2.drew | exact Lw2.alloc Lw2.size _ | exact (Lw2.alloc Lw2.size _).drew)⟩
  case rest =>
    rename World => wq
    obtain ⟨rfl, Lwq⟩ := hcut
    clear x0 x1 hV LV HI
    have lc : w.heap.size < wq.heap.size := (XV.out.belowS Lwq.out).lt
    have x0 : wq.cell? ⟨w.heap.size, 0, none⟩ = some (.int .i64 1) := (XV.out.belowS Lwq.out).cell 0
    have x11 : wq.cell? ⟨w.heap.size, 11, none⟩ = some (.slice wa wn wc) := (XV.out.belowS Lwq.out).cell 11
    go_wp2_with fail
    refine (CN.out wq).mono ?_
    rintro e w7 ⟨rfl, hb⟩
    have Lw7 : Hid (Below V.heap.size V w7) := Lwq.out.trans (hb.mono Lwq.out.size)
    clear hb CN x0 x11
    have x0 : w7.cell? ⟨w.heap.size, 0, none⟩ = some (.int .i64 1) := (XV.out.belowS Lw7.out).cell 0
    have x12 : w7.cell? ⟨w.heap.size, 12, none⟩ = some (.int .i64 0) := (XV.out.belowS Lw7.out).cell 12
    have x13 : w7.cell? ⟨w.heap.size, 13, none⟩ = some (.bool false) := (XV.out.belowS Lw7.out).cell 13
    have BX : Hid (Below w.heap.size w w7) := BV.out.trans (Lw7.out.mono BV.out.size)
    go_wp2
    go_ret
    exact ⟨rfl, BX.out⟩
set_option maxRecDepth 100000 in
set_option maxHeartbeats 8000000 in
theorem c_stS_S01 (tb i : Int) (u v : VV) (c : Int) (sa : Option Addr) (sn sc : Nat) (wa : Option Addr) (wn wc : Nat) (on : Nat) (LS LW : List EN) (w : World) (h1 : u.2.2.size ≤ maxLen) (h2 : v.2.2.size ≤ maxLen) (s2 : RdE w sa sn LS) (hs : sn ≤ 1048576) (s3 : ∀ x ∈ LS, x.t.size ≤ maxLen) (w2 : RdE w wa wn LW) (hw : wn ≤ 1048576) (w3 : ∀ x ∈ LW, x.t.size ≤ maxLen) (htb : 1 ≤ tb ∧ tb ≤ 3) (hst : stB 1 tb (rowZ i u v) (rowB i u v) c sn (okX LS sn) wn (okX LW wn) (on : Int) false = true) (hwn : (wn == 0) = true) (hon : on < 3) (hno : noB (on : Int) false = false) :
    Calls Tryd.prog 40 #[.agg #[.int .i64 1, .int .i64 tb, .int .i64 i, .int .i64 u.1, .int .i64 u.2.1, .string u.2.2, .int .i64 v.1, .int .i64 v.2.1, .string v.2.2, .int .i64 c, .slice sa sn sc, .slice wa wn wc, .int .i64 (on : Int), .bool false]] w fun e w' => e = .returned (.string (joinS [⟨#[115, 101, 108, 101, 99, 116]⟩, itB tb, ⟨#[111, 114, 100, 101, 114]⟩, clT (on : Int)])) ∧ Below w.heap.size w w' := by
  obtain ⟨V, hV⟩ : ∃ W, w.alloc (.cells #[.int .i64 1, .int .i64 tb, .int .i64 i, .int .i64 u.1, .int .i64 u.2.1, .string u.2.2, .int .i64 v.1, .int .i64 v.2.1, .string v.2.2, .int .i64 c, .slice sa sn sc, .slice wa wn wc, .int .i64 (on : Int), .bool false] 52) = W := ⟨_, rfl⟩
  have BV : Hid (Below w.heap.size w V) := by unfold Hid; rw [← hV]; exact (Below.refl _ _).alloc (Nat.le_refl _) _
  have XV : Hid (Box V w.heap.size 52 #[.int .i64 1, .int .i64 tb, .int .i64 i, .int .i64 u.1, .int .i64 u.2.1, .string u.2.2, .int .i64 v.1, .int .i64 v.2.1, .string v.2.2, .int .i64 c, .slice sa sn sc, .slice wa wn wc, .int .i64 (on : Int), .bool false]) := by unfold Hid; rw [← hV]; exact Box.new _ _ _
  have HS : Hid (RdE V sa sn LS) := s2.below BV.out
  have HW : Hid (RdE V wa wn LW) := w2.below BV.out
  have S3 : Hid (∀ x ∈ LS, x.t.size ≤ maxLen) := s3
  have W3 : Hid (∀ x ∈ LW, x.t.size ≤ maxLen) := w3
  have zS : (xtS LS sn).size ≤ 1200 := xtS_size s2.1 s3
  have zW : (xtS LW wn).size ≤ 1200 := xtS_size w2.1 w3
  have zI : (itB tb).size ≤ 21 := itB_size (by omega) (by omega)
  have HI : Hid (∀ W : World, Calls Tryd.prog 80 #[.int .i64 tb] W fun e w' => e = .returned (.string (itB tb)) ∧ Below W.heap.size W w') := fun W => c_dig tb W (by omega) (by omega)
  have CN : Hid (∀ W : World, Calls Tryd.prog 79 #[.agg #[.slice wa wn wc]] W fun e w' => e = .returned (.bool true) ∧ Below W.heap.size W w') := fun W => by have h := c_none wa wn wc W; rw [hwn] at h; exact h
  have HC : Hid (∀ W : World, Calls Tryd.prog 61 #[] W fun e w' => e = .returned (.slice (some ⟨W.heap.size, 0, none⟩) 3 3) ∧ w'.cell? ⟨W.heap.size, on, none⟩ = some (.string (clT (on : Int))) ∧ Below W.heap.size W w') := fun W => (c_cols W).mono fun e w' h => by
    obtain ⟨he, hw⟩ := h
    refine ⟨he, ?_, by rw [hw]; exact (Below.refl _ _).alloc (Nat.le_refl _) _⟩
    rw [hw]
    have h3 : on = 0 ∨ on = 1 ∨ on = 2 := by omega
    rcases h3 with e | e | e
    · subst e; exact (Box.new W _ 9).cell 0
    · subst e; exact (Box.new W _ 9).cell 1
    · subst e; exact (Box.new W _ 9).cell 2
  have zC : (clT (on : Int)).size ≤ 4 := clT_size _
  have g1 : (0 : Int) ≤ (on : Int) := by omega
  have g2 : (on : Int) < 3 := by omega
  obtain ⟨sC, hsC⟩ : ∃ s, clT (on : Int) = s := ⟨_, rfl⟩
  obtain ⟨sI, hsI⟩ : ∃ s, itB tb = s := ⟨_, rfl⟩
  rw [hsI] at HI zI ⊢
  obtain ⟨sW, hsW⟩ : ∃ s, xtS LW wn = s := ⟨_, rfl⟩
  rw [hsW] at zW
  obtain ⟨sS, hsS⟩ : ∃ s, xtS LS sn = s := ⟨_, rfl⟩
  rw [hsS] at zS
  rw [hsC] at HC zC ⊢
  have E : Hid (joinS [⟨#[115, 101, 108, 101, 99, 116]⟩, sI, ⟨#[111, 114, 100, 101, 114]⟩, sC] = (⟨#[115, 101, 108, 101, 99, 116]⟩ ++ ⟨#[32]⟩ ++ sI) ++ (⟨#[32, 111, 114, 100, 101, 114, 32]⟩ ++ sC)) := by
    apply ba_eq
    simp [joinS, Lib.join_cons, Lib.joinTail, ByteArray.data_append]
  rw [E.out]
  have LV : Hid (Below V.heap.size V V) := Below.refl _ _
  clear hst s2 s3 w2 w3 hsI hsW hsS E hsC
  go_enter Tryd.func40, Tryd.ntmps40
  have lV : w.heap.size < V.heap.size := XV.out.lt
  go_upto_region 1 with fail
  have x0 : V.cell? ⟨w.heap.size, 0, none⟩ = some (.int .i64 1) := (XV.out.belowS LV.out).cell 0
  have x1 : V.cell? ⟨w.heap.size, 1, none⟩ = some (.int .i64 tb) := (XV.out.belowS LV.out).cell 1
  go_cut [3] (fun s wx => s = .string (⟨#[115, 101, 108, 101, 99, 116]⟩ ++ ⟨#[32]⟩ ++ sI) ∧ Hid (Below V.heap.size V wx))
  case first =>
    go_region_with ((go_at_call 80; refine (HI.out _).mono ?_; rintro e w2 ⟨rfl, hb2⟩; have Lw2 : Below V.heap.size V w2 := (by first | exact (Below.refl V.heap.size V).drew.trans hb2 | exact ((Below.refl V.heap.size V).alloc (Nat.le_refl _) _).drew.trans (hb2.mono (by simp)) | exact hb2 | trace_state); have y0 : w2.cell? ⟨w.heap.size, 0, none⟩ = some (.int .i64 1) := (XV.out.belowS Lw2).cell 0; have y1 : w2.cell? ⟨w.heap.size, 1, none⟩ = some (.int .i64 tb) := (XV.out.belowS Lw2).cell 1; have lw2 : w.heap.size < w2.heap.size := (XV.out.belowS Lw2).lt; first | (have kn : w2.cell? ⟨V.heap.size, 1, none⟩ = some (.string ⟨#[115, 101, 108, 101, 99, 116]⟩) := far6 hb2 (show (V.alloc (.cells #[.string ⟨#[]⟩, .string ⟨#[115, 101, 108, 101, 99, 116]⟩, .string ⟨#[105, 110, 115, 101, 114, 116]⟩, .string ⟨#[117, 112, 100, 97, 116, 101]⟩, .string ⟨#[100, 101, 108, 101, 116, 101]⟩] 9)).cell? ⟨V.heap.size, 1, none⟩ = some (.string ⟨#[115, 101, 108, 101, 99, 116]⟩) from (Box.new V #[.string ⟨#[]⟩, .string ⟨#[115, 101, 108, 101, 99, 116]⟩, .string ⟨#[105, 110, 115, 101, 114, 116]⟩, .string ⟨#[117, 112, 100, 97, 116, 101]⟩, .string ⟨#[100, 101, 108, 101, 116, 101]⟩] 9).cell 1)) | skip))
    all_goals
      go_wp2_with fail
      go_meet
      exact ⟨rfl, by unfold Hid; (first | exact Lw2 | exact Lw2.drew | exact Lw2.alloc Lw2.size _ | exact (Lw2.alloc Lw2.size _).drew)⟩
  case rest =>
    rename World => wq
    obtain ⟨rfl, Lwq⟩ := hcut
    clear x0 x1 hV LV HI
    have lc : w.heap.size < wq.heap.size := (XV.out.belowS Lwq.out).lt
    have x0 : wq.cell? ⟨w.heap.size, 0, none⟩ = some (.int .i64 1) := (XV.out.belowS Lwq.out).cell 0
    have x11 : wq.cell? ⟨w.heap.size, 11, none⟩ = some (.slice wa wn wc) := (XV.out.belowS Lwq.out).cell 11
    go_wp2_with fail
    refine (CN.out wq).mono ?_
    rintro e w7 ⟨rfl, hb⟩
    have Lw7 : Hid (Below V.heap.size V w7) := Lwq.out.trans (hb.mono Lwq.out.size)
    clear hb CN x0 x11
    have x0 : w7.cell? ⟨w.heap.size, 0, none⟩ = some (.int .i64 1) := (XV.out.belowS Lw7.out).cell 0
    have x12 : w7.cell? ⟨w.heap.size, 12, none⟩ = some (.int .i64 (on : Int)) := (XV.out.belowS Lw7.out).cell 12
    have x13 : w7.cell? ⟨w.heap.size, 13, none⟩ = some (.bool false) := (XV.out.belowS Lw7.out).cell 13
    have hn0 : (0 : Int) < (on : Int) := by unfold noB at hno; simp at hno; omega
    go_upto_region 9 with fail
    go_cut [3] (fun s wx => s = .string ((⟨#[115, 101, 108, 101, 99, 116]⟩ ++ ⟨#[32]⟩ ++ sI) ++ (⟨#[32, 111, 114, 100, 101, 114, 32]⟩ ++ sC)) ∧ Hid (Below V.heap.size V wx))
    case first =>
      go_region_with ((go_at_call 61; refine (HC.out _).mono ?_; rintro e w4 ⟨rfl, kn, hb4⟩; have Lw4 : Below V.heap.size V w4 := Lw7.out.trans (((Below.refl w7.heap.size w7).drew.trans hb4).mono Lw7.out.size); have y12 : w4.cell? ⟨w.heap.size, 12, none⟩ = some (.int .i64 (on : Int)) := (XV.out.belowS Lw4).cell 12; have k4 : w4.cell? ⟨w7.heap.size, on, none⟩ = some (.string sC) := kn))
      all_goals
        go_wp2_with fail
        go_meet
        exact ⟨rfl, Lw4⟩
    case rest =>
      rename World => w9
      obtain ⟨rfl, Lw9⟩ := hcut
      clear x0 x12 x13
      have x13 : w9.cell? ⟨w.heap.size, 13, none⟩ = some (.bool false) := (XV.out.belowS Lw9.out).cell 13
      have BX : Hid (Below w.heap.size w w9) := BV.out.trans (Lw9.out.mono BV.out.size)
      go_wp2
      go_ret
      exact ⟨rfl, BX.out⟩
set_option maxRecDepth 100000 in
set_option maxHeartbeats 8000000 in
theorem c_stS_S02 (tb i : Int) (u v : VV) (c : Int) (sa : Option Addr) (sn sc : Nat) (wa : Option Addr) (wn wc : Nat) (on : Nat) (LS LW : List EN) (w : World) (h1 : u.2.2.size ≤ maxLen) (h2 : v.2.2.size ≤ maxLen) (s2 : RdE w sa sn LS) (hs : sn ≤ 1048576) (s3 : ∀ x ∈ LS, x.t.size ≤ maxLen) (w2 : RdE w wa wn LW) (hw : wn ≤ 1048576) (w3 : ∀ x ∈ LW, x.t.size ≤ maxLen) (htb : 1 ≤ tb ∧ tb ≤ 3) (hst : stB 1 tb (rowZ i u v) (rowB i u v) c sn (okX LS sn) wn (okX LW wn) (on : Int) true = true) (hwn : (wn == 0) = true) (hon : on < 3) (hno : noB (on : Int) true = false) (hn0 : (0 : Int) < (on : Int)) :
    Calls Tryd.prog 40 #[.agg #[.int .i64 1, .int .i64 tb, .int .i64 i, .int .i64 u.1, .int .i64 u.2.1, .string u.2.2, .int .i64 v.1, .int .i64 v.2.1, .string v.2.2, .int .i64 c, .slice sa sn sc, .slice wa wn wc, .int .i64 (on : Int), .bool true]] w fun e w' => e = .returned (.string (joinS [⟨#[115, 101, 108, 101, 99, 116]⟩, itB tb, ⟨#[111, 114, 100, 101, 114]⟩, clT (on : Int), ⟨#[100, 101, 115, 99]⟩])) ∧ Below w.heap.size w w' := by
  obtain ⟨V, hV⟩ : ∃ W, w.alloc (.cells #[.int .i64 1, .int .i64 tb, .int .i64 i, .int .i64 u.1, .int .i64 u.2.1, .string u.2.2, .int .i64 v.1, .int .i64 v.2.1, .string v.2.2, .int .i64 c, .slice sa sn sc, .slice wa wn wc, .int .i64 (on : Int), .bool true] 52) = W := ⟨_, rfl⟩
  have BV : Hid (Below w.heap.size w V) := by unfold Hid; rw [← hV]; exact (Below.refl _ _).alloc (Nat.le_refl _) _
  have XV : Hid (Box V w.heap.size 52 #[.int .i64 1, .int .i64 tb, .int .i64 i, .int .i64 u.1, .int .i64 u.2.1, .string u.2.2, .int .i64 v.1, .int .i64 v.2.1, .string v.2.2, .int .i64 c, .slice sa sn sc, .slice wa wn wc, .int .i64 (on : Int), .bool true]) := by unfold Hid; rw [← hV]; exact Box.new _ _ _
  have HS : Hid (RdE V sa sn LS) := s2.below BV.out
  have HW : Hid (RdE V wa wn LW) := w2.below BV.out
  have S3 : Hid (∀ x ∈ LS, x.t.size ≤ maxLen) := s3
  have W3 : Hid (∀ x ∈ LW, x.t.size ≤ maxLen) := w3
  have zS : (xtS LS sn).size ≤ 1200 := xtS_size s2.1 s3
  have zW : (xtS LW wn).size ≤ 1200 := xtS_size w2.1 w3
  have zI : (itB tb).size ≤ 21 := itB_size (by omega) (by omega)
  have HI : Hid (∀ W : World, Calls Tryd.prog 80 #[.int .i64 tb] W fun e w' => e = .returned (.string (itB tb)) ∧ Below W.heap.size W w') := fun W => c_dig tb W (by omega) (by omega)
  have CN : Hid (∀ W : World, Calls Tryd.prog 79 #[.agg #[.slice wa wn wc]] W fun e w' => e = .returned (.bool true) ∧ Below W.heap.size W w') := fun W => by have h := c_none wa wn wc W; rw [hwn] at h; exact h
  have HC : Hid (∀ W : World, Calls Tryd.prog 61 #[] W fun e w' => e = .returned (.slice (some ⟨W.heap.size, 0, none⟩) 3 3) ∧ w'.cell? ⟨W.heap.size, on, none⟩ = some (.string (clT (on : Int))) ∧ Below W.heap.size W w') := fun W => (c_cols W).mono fun e w' h => by
    obtain ⟨he, hw⟩ := h
    refine ⟨he, ?_, by rw [hw]; exact (Below.refl _ _).alloc (Nat.le_refl _) _⟩
    rw [hw]
    have h3 : on = 0 ∨ on = 1 ∨ on = 2 := by omega
    rcases h3 with e | e | e
    · subst e; exact (Box.new W _ 9).cell 0
    · subst e; exact (Box.new W _ 9).cell 1
    · subst e; exact (Box.new W _ 9).cell 2
  have zC : (clT (on : Int)).size ≤ 4 := clT_size _
  have g1 : (0 : Int) ≤ (on : Int) := by omega
  have g2 : (on : Int) < 3 := by omega
  obtain ⟨sC, hsC⟩ : ∃ s, clT (on : Int) = s := ⟨_, rfl⟩
  obtain ⟨sI, hsI⟩ : ∃ s, itB tb = s := ⟨_, rfl⟩
  rw [hsI] at HI zI ⊢
  obtain ⟨sW, hsW⟩ : ∃ s, xtS LW wn = s := ⟨_, rfl⟩
  rw [hsW] at zW
  obtain ⟨sS, hsS⟩ : ∃ s, xtS LS sn = s := ⟨_, rfl⟩
  rw [hsS] at zS
  rw [hsC] at HC zC ⊢
  have E : Hid (joinS [⟨#[115, 101, 108, 101, 99, 116]⟩, sI, ⟨#[111, 114, 100, 101, 114]⟩, sC, ⟨#[100, 101, 115, 99]⟩] = ((⟨#[115, 101, 108, 101, 99, 116]⟩ ++ ⟨#[32]⟩ ++ sI) ++ (⟨#[32, 111, 114, 100, 101, 114, 32]⟩ ++ sC)) ++ ⟨#[32, 100, 101, 115, 99]⟩) := by
    apply ba_eq
    simp [joinS, Lib.join_cons, Lib.joinTail, ByteArray.data_append]
  rw [E.out]
  have LV : Hid (Below V.heap.size V V) := Below.refl _ _
  clear hst s2 s3 w2 w3 hsI hsW hsS E hsC
  go_enter Tryd.func40, Tryd.ntmps40
  have lV : w.heap.size < V.heap.size := XV.out.lt
  go_upto_region 1 with fail
  have x0 : V.cell? ⟨w.heap.size, 0, none⟩ = some (.int .i64 1) := (XV.out.belowS LV.out).cell 0
  have x1 : V.cell? ⟨w.heap.size, 1, none⟩ = some (.int .i64 tb) := (XV.out.belowS LV.out).cell 1
  go_cut [3] (fun s wx => s = .string (⟨#[115, 101, 108, 101, 99, 116]⟩ ++ ⟨#[32]⟩ ++ sI) ∧ Hid (Below V.heap.size V wx))
  case first =>
    go_region_with ((go_at_call 80; refine (HI.out _).mono ?_; rintro e w2 ⟨rfl, hb2⟩; have Lw2 : Below V.heap.size V w2 := (by first | exact (Below.refl V.heap.size V).drew.trans hb2 | exact ((Below.refl V.heap.size V).alloc (Nat.le_refl _) _).drew.trans (hb2.mono (by simp)) | exact hb2 | trace_state); have y0 : w2.cell? ⟨w.heap.size, 0, none⟩ = some (.int .i64 1) := (XV.out.belowS Lw2).cell 0; have y1 : w2.cell? ⟨w.heap.size, 1, none⟩ = some (.int .i64 tb) := (XV.out.belowS Lw2).cell 1; have lw2 : w.heap.size < w2.heap.size := (XV.out.belowS Lw2).lt; first | (have kn : w2.cell? ⟨V.heap.size, 1, none⟩ = some (.string ⟨#[115, 101, 108, 101, 99, 116]⟩) := far6 hb2 (show (V.alloc (.cells #[.string ⟨#[]⟩, .string ⟨#[115, 101, 108, 101, 99, 116]⟩, .string ⟨#[105, 110, 115, 101, 114, 116]⟩, .string ⟨#[117, 112, 100, 97, 116, 101]⟩, .string ⟨#[100, 101, 108, 101, 116, 101]⟩] 9)).cell? ⟨V.heap.size, 1, none⟩ = some (.string ⟨#[115, 101, 108, 101, 99, 116]⟩) from (Box.new V #[.string ⟨#[]⟩, .string ⟨#[115, 101, 108, 101, 99, 116]⟩, .string ⟨#[105, 110, 115, 101, 114, 116]⟩, .string ⟨#[117, 112, 100, 97, 116, 101]⟩, .string ⟨#[100, 101, 108, 101, 116, 101]⟩] 9).cell 1)) | skip))
    all_goals
      go_wp2_with fail
      go_meet
      exact ⟨rfl, by unfold Hid; (first | exact Lw2 | exact Lw2.drew | exact Lw2.alloc Lw2.size _ | exact (Lw2.alloc Lw2.size _).drew)⟩
  case rest =>
    rename World => wq
    obtain ⟨rfl, Lwq⟩ := hcut
    clear x0 x1 hV LV HI
    have lc : w.heap.size < wq.heap.size := (XV.out.belowS Lwq.out).lt
    have x0 : wq.cell? ⟨w.heap.size, 0, none⟩ = some (.int .i64 1) := (XV.out.belowS Lwq.out).cell 0
    have x11 : wq.cell? ⟨w.heap.size, 11, none⟩ = some (.slice wa wn wc) := (XV.out.belowS Lwq.out).cell 11
    go_wp2_with fail
    refine (CN.out wq).mono ?_
    rintro e w7 ⟨rfl, hb⟩
    have Lw7 : Hid (Below V.heap.size V w7) := Lwq.out.trans (hb.mono Lwq.out.size)
    clear hb CN x0 x11
    have x0 : w7.cell? ⟨w.heap.size, 0, none⟩ = some (.int .i64 1) := (XV.out.belowS Lw7.out).cell 0
    have x12 : w7.cell? ⟨w.heap.size, 12, none⟩ = some (.int .i64 (on : Int)) := (XV.out.belowS Lw7.out).cell 12
    have x13 : w7.cell? ⟨w.heap.size, 13, none⟩ = some (.bool true) := (XV.out.belowS Lw7.out).cell 13
    go_upto_region 9 with fail
    go_cut [3] (fun s wx => s = .string ((⟨#[115, 101, 108, 101, 99, 116]⟩ ++ ⟨#[32]⟩ ++ sI) ++ (⟨#[32, 111, 114, 100, 101, 114, 32]⟩ ++ sC)) ∧ Hid (Below V.heap.size V wx))
    case first =>
      go_region_with ((go_at_call 61; refine (HC.out _).mono ?_; rintro e w4 ⟨rfl, kn, hb4⟩; have Lw4 : Below V.heap.size V w4 := Lw7.out.trans (((Below.refl w7.heap.size w7).drew.trans hb4).mono Lw7.out.size); have y12 : w4.cell? ⟨w.heap.size, 12, none⟩ = some (.int .i64 (on : Int)) := (XV.out.belowS Lw4).cell 12; have k4 : w4.cell? ⟨w7.heap.size, on, none⟩ = some (.string sC) := kn))
      all_goals
        go_wp2_with fail
        go_meet
        exact ⟨rfl, Lw4⟩
    case rest =>
      rename World => w9
      obtain ⟨rfl, Lw9⟩ := hcut
      clear x0 x12 x13
      have x13 : w9.cell? ⟨w.heap.size, 13, none⟩ = some (.bool true) := (XV.out.belowS Lw9.out).cell 13
      have BX : Hid (Below w.heap.size w w9) := BV.out.trans (Lw9.out.mono BV.out.size)
      go_wp2
      go_ret
      exact ⟨rfl, BX.out⟩
set_option maxRecDepth 100000 in
set_option maxHeartbeats 8000000 in
theorem c_stS_S03 (tb i : Int) (u v : VV) (c : Int) (sa : Option Addr) (sn sc : Nat) (wa : Option Addr) (wn wc : Nat) (LS LW : List EN) (w : World) (h1 : u.2.2.size ≤ maxLen) (h2 : v.2.2.size ≤ maxLen) (s2 : RdE w sa sn LS) (hs : sn ≤ 1048576) (s3 : ∀ x ∈ LS, x.t.size ≤ maxLen) (w2 : RdE w wa wn LW) (hw : wn ≤ 1048576) (w3 : ∀ x ∈ LW, x.t.size ≤ maxLen) (htb : 1 ≤ tb ∧ tb ≤ 3) (hst : stB 1 tb (rowZ i u v) (rowB i u v) c sn (okX LS sn) wn (okX LW wn) 0 true = true) (hwn : (wn == 0) = true) :
    Calls Tryd.prog 40 #[.agg #[.int .i64 1, .int .i64 tb, .int .i64 i, .int .i64 u.1, .int .i64 u.2.1, .string u.2.2, .int .i64 v.1, .int .i64 v.2.1, .string v.2.2, .int .i64 c, .slice sa sn sc, .slice wa wn wc, .int .i64 0, .bool true]] w fun e w' => e = .returned (.string (joinS [⟨#[115, 101, 108, 101, 99, 116]⟩, itB tb, ⟨#[111, 114, 100, 101, 114]⟩, clT 0, ⟨#[100, 101, 115, 99]⟩])) ∧ Below w.heap.size w w' := by
  obtain ⟨V, hV⟩ : ∃ W, w.alloc (.cells #[.int .i64 1, .int .i64 tb, .int .i64 i, .int .i64 u.1, .int .i64 u.2.1, .string u.2.2, .int .i64 v.1, .int .i64 v.2.1, .string v.2.2, .int .i64 c, .slice sa sn sc, .slice wa wn wc, .int .i64 0, .bool true] 52) = W := ⟨_, rfl⟩
  have BV : Hid (Below w.heap.size w V) := by unfold Hid; rw [← hV]; exact (Below.refl _ _).alloc (Nat.le_refl _) _
  have XV : Hid (Box V w.heap.size 52 #[.int .i64 1, .int .i64 tb, .int .i64 i, .int .i64 u.1, .int .i64 u.2.1, .string u.2.2, .int .i64 v.1, .int .i64 v.2.1, .string v.2.2, .int .i64 c, .slice sa sn sc, .slice wa wn wc, .int .i64 0, .bool true]) := by unfold Hid; rw [← hV]; exact Box.new _ _ _
  have HS : Hid (RdE V sa sn LS) := s2.below BV.out
  have HW : Hid (RdE V wa wn LW) := w2.below BV.out
  have S3 : Hid (∀ x ∈ LS, x.t.size ≤ maxLen) := s3
  have W3 : Hid (∀ x ∈ LW, x.t.size ≤ maxLen) := w3
  have zS : (xtS LS sn).size ≤ 1200 := xtS_size s2.1 s3
  have zW : (xtS LW wn).size ≤ 1200 := xtS_size w2.1 w3
  have zI : (itB tb).size ≤ 21 := itB_size (by omega) (by omega)
  have HI : Hid (∀ W : World, Calls Tryd.prog 80 #[.int .i64 tb] W fun e w' => e = .returned (.string (itB tb)) ∧ Below W.heap.size W w') := fun W => c_dig tb W (by omega) (by omega)
  have CN : Hid (∀ W : World, Calls Tryd.prog 79 #[.agg #[.slice wa wn wc]] W fun e w' => e = .returned (.bool true) ∧ Below W.heap.size W w') := fun W => by have h := c_none wa wn wc W; rw [hwn] at h; exact h
  have HC : Hid (∀ W : World, Calls Tryd.prog 61 #[] W fun e w' => e = .returned (.slice (some ⟨W.heap.size, 0, none⟩) 3 3) ∧ w'.cell? ⟨W.heap.size, 0, none⟩ = some (.string (clT 0)) ∧ Below W.heap.size W w') := fun W => (c_cols W).mono fun e w' h => by
    obtain ⟨he, hw⟩ := h
    refine ⟨he, ?_, by rw [hw]; exact (Below.refl _ _).alloc (Nat.le_refl _) _⟩
    rw [hw]
    exact (Box.new W _ 9).cell 0
  have zC : (clT 0).size ≤ 4 := clT_size _
  obtain ⟨sC, hsC⟩ : ∃ s, clT 0 = s := ⟨_, rfl⟩
  obtain ⟨sI, hsI⟩ : ∃ s, itB tb = s := ⟨_, rfl⟩
  rw [hsI] at HI zI ⊢
  obtain ⟨sW, hsW⟩ : ∃ s, xtS LW wn = s := ⟨_, rfl⟩
  rw [hsW] at zW
  obtain ⟨sS, hsS⟩ : ∃ s, xtS LS sn = s := ⟨_, rfl⟩
  rw [hsS] at zS
  rw [hsC] at HC zC ⊢
  have E : Hid (joinS [⟨#[115, 101, 108, 101, 99, 116]⟩, sI, ⟨#[111, 114, 100, 101, 114]⟩, sC, ⟨#[100, 101, 115, 99]⟩] = ((⟨#[115, 101, 108, 101, 99, 116]⟩ ++ ⟨#[32]⟩ ++ sI) ++ (⟨#[32, 111, 114, 100, 101, 114, 32]⟩ ++ sC)) ++ ⟨#[32, 100, 101, 115, 99]⟩) := by
    apply ba_eq
    simp [joinS, Lib.join_cons, Lib.joinTail, ByteArray.data_append]
  rw [E.out]
  have LV : Hid (Below V.heap.size V V) := Below.refl _ _
  clear hst s2 s3 w2 w3 hsI hsW hsS E hsC
  go_enter Tryd.func40, Tryd.ntmps40
  have lV : w.heap.size < V.heap.size := XV.out.lt
  go_upto_region 1 with fail
  have x0 : V.cell? ⟨w.heap.size, 0, none⟩ = some (.int .i64 1) := (XV.out.belowS LV.out).cell 0
  have x1 : V.cell? ⟨w.heap.size, 1, none⟩ = some (.int .i64 tb) := (XV.out.belowS LV.out).cell 1
  go_cut [3] (fun s wx => s = .string (⟨#[115, 101, 108, 101, 99, 116]⟩ ++ ⟨#[32]⟩ ++ sI) ∧ Hid (Below V.heap.size V wx))
  case first =>
    go_region_with ((go_at_call 80; refine (HI.out _).mono ?_; rintro e w2 ⟨rfl, hb2⟩; have Lw2 : Below V.heap.size V w2 := (by first | exact (Below.refl V.heap.size V).drew.trans hb2 | exact ((Below.refl V.heap.size V).alloc (Nat.le_refl _) _).drew.trans (hb2.mono (by simp)) | exact hb2 | trace_state); have y0 : w2.cell? ⟨w.heap.size, 0, none⟩ = some (.int .i64 1) := (XV.out.belowS Lw2).cell 0; have y1 : w2.cell? ⟨w.heap.size, 1, none⟩ = some (.int .i64 tb) := (XV.out.belowS Lw2).cell 1; have lw2 : w.heap.size < w2.heap.size := (XV.out.belowS Lw2).lt; first | (have kn : w2.cell? ⟨V.heap.size, 1, none⟩ = some (.string ⟨#[115, 101, 108, 101, 99, 116]⟩) := far6 hb2 (show (V.alloc (.cells #[.string ⟨#[]⟩, .string ⟨#[115, 101, 108, 101, 99, 116]⟩, .string ⟨#[105, 110, 115, 101, 114, 116]⟩, .string ⟨#[117, 112, 100, 97, 116, 101]⟩, .string ⟨#[100, 101, 108, 101, 116, 101]⟩] 9)).cell? ⟨V.heap.size, 1, none⟩ = some (.string ⟨#[115, 101, 108, 101, 99, 116]⟩) from (Box.new V #[.string ⟨#[]⟩, .string ⟨#[115, 101, 108, 101, 99, 116]⟩, .string ⟨#[105, 110, 115, 101, 114, 116]⟩, .string ⟨#[117, 112, 100, 97, 116, 101]⟩, .string ⟨#[100, 101, 108, 101, 116, 101]⟩] 9).cell 1)) | skip))
    all_goals
      go_wp2_with fail
      go_meet
      exact ⟨rfl, by unfold Hid; (first | exact Lw2 | exact Lw2.drew | exact Lw2.alloc Lw2.size _ | exact (Lw2.alloc Lw2.size _).drew)⟩
  case rest =>
    rename World => wq
    obtain ⟨rfl, Lwq⟩ := hcut
    clear x0 x1 hV LV HI
    have lc : w.heap.size < wq.heap.size := (XV.out.belowS Lwq.out).lt
    have x0 : wq.cell? ⟨w.heap.size, 0, none⟩ = some (.int .i64 1) := (XV.out.belowS Lwq.out).cell 0
    have x11 : wq.cell? ⟨w.heap.size, 11, none⟩ = some (.slice wa wn wc) := (XV.out.belowS Lwq.out).cell 11
    go_wp2_with fail
    refine (CN.out wq).mono ?_
    rintro e w7 ⟨rfl, hb⟩
    have Lw7 : Hid (Below V.heap.size V w7) := Lwq.out.trans (hb.mono Lwq.out.size)
    clear hb CN x0 x11
    have x0 : w7.cell? ⟨w.heap.size, 0, none⟩ = some (.int .i64 1) := (XV.out.belowS Lw7.out).cell 0
    have x12 : w7.cell? ⟨w.heap.size, 12, none⟩ = some (.int .i64 0) := (XV.out.belowS Lw7.out).cell 12
    have x13 : w7.cell? ⟨w.heap.size, 13, none⟩ = some (.bool true) := (XV.out.belowS Lw7.out).cell 13
    go_upto_region 9 with fail
    go_cut [3] (fun s wx => s = .string ((⟨#[115, 101, 108, 101, 99, 116]⟩ ++ ⟨#[32]⟩ ++ sI) ++ (⟨#[32, 111, 114, 100, 101, 114, 32]⟩ ++ sC)) ∧ Hid (Below V.heap.size V wx))
    case first =>
      go_region_with ((go_at_call 61; refine (HC.out _).mono ?_; rintro e w4 ⟨rfl, kn, hb4⟩; have Lw4 : Below V.heap.size V w4 := Lw7.out.trans (((Below.refl w7.heap.size w7).drew.trans hb4).mono Lw7.out.size); have y12 : w4.cell? ⟨w.heap.size, 12, none⟩ = some (.int .i64 0) := (XV.out.belowS Lw4).cell 12; have k4 : w4.cell? ⟨w7.heap.size, 0, none⟩ = some (.string sC) := kn))
      all_goals
        go_wp2_with fail
        go_meet
        exact ⟨rfl, Lw4⟩
    case rest =>
      rename World => w9
      obtain ⟨rfl, Lw9⟩ := hcut
      clear x0 x12 x13
      have x13 : w9.cell? ⟨w.heap.size, 13, none⟩ = some (.bool true) := (XV.out.belowS Lw9.out).cell 13
      have BX : Hid (Below w.heap.size w w9) := BV.out.trans (Lw9.out.mono BV.out.size)
      go_wp2
      go_ret
      exact ⟨rfl, BX.out⟩

end Go.Proofs.YtknjglgellhchaaDoor
