/-
  StmtText: the specification, by the ways through it.
-/
import Derived.Test.YtknjglgellhchaaDoorVb0
import Derived.Test.YtknjglgellhchaaDoorTc
import Derived.Test.YtknjglgellhchaaDoorVt
import Derived.Test.YtknjglgellhchaaDoorSa
import Derived.Deep.RegionHeld3
import Derived.Deep.DrawnRows
import Derived.BigQuiet
import Derived.Deep.QuietTactic
import Derived.Deep.RegionWith
import Derived.Deep.DeepCutAuto
import Derived.Deep.CutRange
namespace Go.Proofs.YtknjglgellhchaaDoor
open Go Go.RowKit
attribute [local go_sem ↓] Go.wp_at_zero Go.wp_at_succ

set_option linter.unusedVariables false
set_option linter.unusedSimpArgs false
set_option maxRecDepth 100000 in
set_option maxHeartbeats 40000000 in
theorem c_stS_U0 (tb i : Int) (u v : VV) (cn : Nat) (sa : Option Addr) (sn sc : Nat) (wa : Option Addr) (wn wc : Nat) (LS LW : List EN) (w : World) (h1 : u.2.2.size ≤ maxLen) (h2 : v.2.2.size ≤ maxLen) (s2 : RdE w sa sn LS) (hs : sn ≤ 1048576) (s3 : ∀ x ∈ LS, x.t.size ≤ maxLen) (w2 : RdE w wa wn LW) (hw : wn ≤ 1048576) (w3 : ∀ x ∈ LW, x.t.size ≤ maxLen) (htb : 1 ≤ tb ∧ tb ≤ 3) (hst : stB 3 tb (rowZ i u v) (rowB i u v) (cn : Int) sn (okX LS sn) wn (okX LW wn) 0 false = true) (hwn : (wn == 0) = true) (hcn : cn < 3) :
    Calls Tryd.prog 40 #[.agg #[.int .i64 3, .int .i64 tb, .int .i64 i, .int .i64 u.1, .int .i64 u.2.1, .string u.2.2, .int .i64 v.1, .int .i64 v.2.1, .string v.2.2, .int .i64 (cn : Int), .slice sa sn sc, .slice wa wn wc, .int .i64 0, .bool false]] w fun e w' => e = .returned (.string (joinS [⟨#[117, 112, 100, 97, 116, 101]⟩, itB tb, ⟨#[115, 101, 116]⟩, clT (cn : Int), ⟨#[61]⟩, xtS LS sn])) ∧ Below w.heap.size w w' := by
  obtain ⟨V, hV⟩ : ∃ W, w.alloc (.cells #[.int .i64 3, .int .i64 tb, .int .i64 i, .int .i64 u.1, .int .i64 u.2.1, .string u.2.2, .int .i64 v.1, .int .i64 v.2.1, .string v.2.2, .int .i64 (cn : Int), .slice sa sn sc, .slice wa wn wc, .int .i64 0, .bool false] 52) = W := ⟨_, rfl⟩
  have BV : Hid (Below w.heap.size w V) := by unfold Hid; rw [← hV]; exact (Below.refl _ _).alloc (Nat.le_refl _) _
  have XV : Hid (Box V w.heap.size 52 #[.int .i64 3, .int .i64 tb, .int .i64 i, .int .i64 u.1, .int .i64 u.2.1, .string u.2.2, .int .i64 v.1, .int .i64 v.2.1, .string v.2.2, .int .i64 (cn : Int), .slice sa sn sc, .slice wa wn wc, .int .i64 0, .bool false]) := by unfold Hid; rw [← hV]; exact Box.new _ _ _
  have HS : Hid (RdE V sa sn LS) := s2.below BV.out
  have HW : Hid (RdE V wa wn LW) := w2.below BV.out
  have S3 : Hid (∀ x ∈ LS, x.t.size ≤ maxLen) := s3
  have W3 : Hid (∀ x ∈ LW, x.t.size ≤ maxLen) := w3
  have zS : (xtS LS sn).size ≤ 1200 := xtS_size s2.1 s3
  have zW : (xtS LW wn).size ≤ 1200 := xtS_size w2.1 w3
  have zI : (itB tb).size ≤ 21 := itB_size (by omega) (by omega)
  have HI : Hid (∀ W : World, Calls Tryd.prog 80 #[.int .i64 tb] W fun e w' => e = .returned (.string (itB tb)) ∧ Below W.heap.size W w') := fun W => c_dig tb W (by omega) (by omega)
  have CN : Hid (∀ W : World, Calls Tryd.prog 79 #[.agg #[.slice wa wn wc]] W fun e w' => e = .returned (.bool true) ∧ Below W.heap.size W w') := fun W => by have h := c_none wa wn wc W; rw [hwn] at h; exact h
  have oS : okX LS sn = true := by unfold stB at hst; simp at hst; exact hst.2.2.2.1
  have CX : Hid (∀ W : World, Below V.heap.size V W → Calls Tryd.prog 29 #[.agg #[.slice sa sn sc], .int .i64 ((sn : Int) - 1)] W fun e w' => e = .returned (.string (xtS LS sn)) ∧ Below W.heap.size W w') := fun W hW => c_ltX LS sa sn sc W oS (HS.out.below hW) S3.out
  have HC : Hid (∀ W : World, Calls Tryd.prog 61 #[] W fun e w' => e = .returned (.slice (some ⟨W.heap.size, 0, none⟩) 3 3) ∧ w'.cell? ⟨W.heap.size, cn, none⟩ = some (.string (clT (cn : Int))) ∧ Below W.heap.size W w') := fun W => (c_cols W).mono fun e w' h => by
    obtain ⟨he, hw⟩ := h
    refine ⟨he, ?_, by rw [hw]; exact (Below.refl _ _).alloc (Nat.le_refl _) _⟩
    rw [hw]
    have h3 : cn = 0 ∨ cn = 1 ∨ cn = 2 := by omega
    rcases h3 with e | e | e
    · subst e; exact (Box.new W _ 9).cell 0
    · subst e; exact (Box.new W _ 9).cell 1
    · subst e; exact (Box.new W _ 9).cell 2
  have zC : (clT (cn : Int)).size ≤ 4 := clT_size _
  have g1 : (0 : Int) ≤ (cn : Int) := by omega
  have g2 : (cn : Int) < 3 := by omega
  obtain ⟨sC, hsC⟩ : ∃ s, clT (cn : Int) = s := ⟨_, rfl⟩
  obtain ⟨sI, hsI⟩ : ∃ s, itB tb = s := ⟨_, rfl⟩
  rw [hsI] at HI zI ⊢
  obtain ⟨sW, hsW⟩ : ∃ s, xtS LW wn = s := ⟨_, rfl⟩
  rw [hsW] at zW
  obtain ⟨sS, hsS⟩ : ∃ s, xtS LS sn = s := ⟨_, rfl⟩
  rw [hsS] at zS CX ⊢
  rw [hsC] at HC zC ⊢
  have E : Hid (joinS [⟨#[117, 112, 100, 97, 116, 101]⟩, sI, ⟨#[115, 101, 116]⟩, sC, ⟨#[61]⟩, sS] = (⟨#[117, 112, 100, 97, 116, 101]⟩ ++ ⟨#[32]⟩ ++ sI) ++ (⟨#[32, 115, 101, 116, 32]⟩ ++ sC ++ ⟨#[32, 61, 32]⟩ ++ sS)) := by
    apply ba_eq
    simp [joinS, Lib.join_cons, Lib.joinTail, ByteArray.data_append]
  rw [E.out]
  have LV : Hid (Below V.heap.size V V) := Below.refl _ _
  clear hst s2 s3 w2 w3 hsI hsW hsS E hsC oS
  go_enter Tryd.func40, Tryd.ntmps40
  have lV : w.heap.size < V.heap.size := XV.out.lt
  go_upto_region 1 with fail
  have x0 : V.cell? ⟨w.heap.size, 0, none⟩ = some (.int .i64 3) := (XV.out.belowS LV.out).cell 0
  have x1 : V.cell? ⟨w.heap.size, 1, none⟩ = some (.int .i64 tb) := (XV.out.belowS LV.out).cell 1
  go_cut [3] (fun s wx => s = .string (⟨#[117, 112, 100, 97, 116, 101]⟩ ++ ⟨#[32]⟩ ++ sI) ∧ Hid (Below V.heap.size V wx))
  case first =>
    go_region_with ((go_at_call 80; refine (HI.out _).mono ?_; rintro e w2 ⟨rfl, hb2⟩; have Lw2 : Below V.heap.size V w2 := (by first | exact (Below.refl V.heap.size V).drew.trans hb2 | exact ((Below.refl V.heap.size V).alloc (Nat.le_refl _) _).drew.trans (hb2.mono (by simp)) | exact hb2 | trace_state); have y0 : w2.cell? ⟨w.heap.size, 0, none⟩ = some (.int .i64 3) := (XV.out.belowS Lw2).cell 0; have y1 : w2.cell? ⟨w.heap.size, 1, none⟩ = some (.int .i64 tb) := (XV.out.belowS Lw2).cell 1; have lw2 : w.heap.size < w2.heap.size := (XV.out.belowS Lw2).lt; first | (have kn : w2.cell? ⟨V.heap.size, 3, none⟩ = some (.string ⟨#[117, 112, 100, 97, 116, 101]⟩) := far6 hb2 (show (V.alloc (.cells #[.string ⟨#[]⟩, .string ⟨#[115, 101, 108, 101, 99, 116]⟩, .string ⟨#[105, 110, 115, 101, 114, 116]⟩, .string ⟨#[117, 112, 100, 97, 116, 101]⟩, .string ⟨#[100, 101, 108, 101, 116, 101]⟩] 9)).cell? ⟨V.heap.size, 3, none⟩ = some (.string ⟨#[117, 112, 100, 97, 116, 101]⟩) from (Box.new V #[.string ⟨#[]⟩, .string ⟨#[115, 101, 108, 101, 99, 116]⟩, .string ⟨#[105, 110, 115, 101, 114, 116]⟩, .string ⟨#[117, 112, 100, 97, 116, 101]⟩, .string ⟨#[100, 101, 108, 101, 116, 101]⟩] 9).cell 3)) | skip))
    all_goals
      go_wp2_with fail
      go_meet
      exact ⟨rfl, by unfold Hid; (first | exact Lw2 | exact Lw2.drew | exact Lw2.alloc Lw2.size _ | exact (Lw2.alloc Lw2.size _).drew)⟩
  case rest =>
    rename World => wq
    obtain ⟨rfl, Lwq⟩ := hcut
    clear x0 x1 hV LV HI
    have lc : w.heap.size < wq.heap.size := (XV.out.belowS Lwq.out).lt
    have x0 : wq.cell? ⟨w.heap.size, 0, none⟩ = some (.int .i64 3) := (XV.out.belowS Lwq.out).cell 0
    have x9 : wq.cell? ⟨w.heap.size, 9, none⟩ = some (.int .i64 (cn : Int)) := (XV.out.belowS Lwq.out).cell 9
    have x10 : wq.cell? ⟨w.heap.size, 10, none⟩ = some (.slice sa sn sc) := (XV.out.belowS Lwq.out).cell 10
    have n0 : ¬ (9223372036854775807 < 5 + sC.size) := by omega
    have n1 : ¬ (9223372036854775804 < 5 + sC.size) := by omega
    have n2 : ¬ (9223372036854775807 < 5 + sC.size + 3) := by omega
    have n3 : ¬ (9223372036854775807 < 5 + sC.size + 3 + sS.size) := by omega
    have n4 : ¬ (9223372036854775807 < 7 + sI.size + (5 + sC.size + 3 + sS.size)) := by omega
    have hwr : IntKind.i64.wrap ((sn : Int) - 1) = (sn : Int) - 1 := by rw [IntKind.wrap_i64]; omega
    go_upto_region 5 with fail
    go_cut [3] (fun s wx => s = .string ((⟨#[117, 112, 100, 97, 116, 101]⟩ ++ ⟨#[32]⟩ ++ sI) ++ (⟨#[32, 115, 101, 116, 32]⟩ ++ sC ++ ⟨#[32, 61, 32]⟩ ++ sS)) ∧ Hid (Below V.heap.size V wx))
    case first =>
      clear HS HW S3 W3 CN zW zS zC zI h1 h2 hs hw hwn htb BV x0
      go_region_with (first | (go_at_call 61; refine (HC.out _).mono ?_; rintro e w4 ⟨rfl, kn, hb4⟩; have Lw4 : Below V.heap.size V w4 := (by first | exact Lw5.trans (hb4.mono Lw5.size) | exact Lwq.out.trans (((Below.refl wq.heap.size wq).drew.trans hb4).mono Lwq.out.size)); have y9 : w4.cell? ⟨w.heap.size, 9, none⟩ = some (.int .i64 (cn : Int)) := (XV.out.belowS Lw4).cell 9; have y10 : w4.cell? ⟨w.heap.size, 10, none⟩ = some (.slice sa sn sc) := (XV.out.belowS Lw4).cell 10; first | (have k4 : w4.cell? ⟨w5.heap.size, cn, none⟩ = some (.string sC) := kn) | (have k4 : w4.cell? ⟨wq.heap.size, cn, none⟩ = some (.string sC) := kn)) | (go_at_call 29; (first | with_reducible refine (CX.out _ Lw4).mono ?_ | with_reducible refine (CX.out _ Lwq.out.drew).mono ?_); rintro e w5 ⟨rfl, hb5⟩; have Lw5 : Below V.heap.size V w5 := (by first | exact Lw4.trans (hb5.mono Lw4.size) | exact Lwq.out.trans (((Below.refl wq.heap.size wq).drew.trans hb5).mono Lwq.out.size)); have z9 : w5.cell? ⟨w.heap.size, 9, none⟩ = some (.int .i64 (cn : Int)) := (XV.out.belowS Lw5).cell 9; have z10 : w5.cell? ⟨w.heap.size, 10, none⟩ = some (.slice sa sn sc) := (XV.out.belowS Lw5).cell 10; first | (have k5 : w5.cell? ⟨wq.heap.size, cn, none⟩ = some (.string sC) := far6 hb5 kn) | skip))
      all_goals
        go_wp2_with fail
        go_meet
        exact ⟨rfl, by unfold Hid; first | with_reducible exact Lw5 | with_reducible exact Lw4⟩
    case rest =>
      rename World => w6
      obtain ⟨rfl, Lw6⟩ := hcut
      clear x0 x9 x10 n0 n1 n2 n3 n4 hwr
      have x0 : w6.cell? ⟨w.heap.size, 0, none⟩ = some (.int .i64 3) := (XV.out.belowS Lw6.out).cell 0
      have x11 : w6.cell? ⟨w.heap.size, 11, none⟩ = some (.slice wa wn wc) := (XV.out.belowS Lw6.out).cell 11
      go_wp2_with fail
      refine (CN.out w6).mono ?_
      rintro e w7 ⟨rfl, hb⟩
      have Lw7 : Hid (Below V.heap.size V w7) := Lw6.out.trans (hb.mono Lw6.out.size)
      clear hb CN x0 x11
      have x0 : w7.cell? ⟨w.heap.size, 0, none⟩ = some (.int .i64 3) := (XV.out.belowS Lw7.out).cell 0
      have x12 : w7.cell? ⟨w.heap.size, 12, none⟩ = some (.int .i64 0) := (XV.out.belowS Lw7.out).cell 12
      have x13 : w7.cell? ⟨w.heap.size, 13, none⟩ = some (.bool false) := (XV.out.belowS Lw7.out).cell 13
      have BX : Hid (Below w.heap.size w w7) := BV.out.trans (Lw7.out.mono BV.out.size)
      go_wp2
      go_ret
      exact ⟨rfl, BX.out⟩

end Go.Proofs.YtknjglgellhchaaDoor
