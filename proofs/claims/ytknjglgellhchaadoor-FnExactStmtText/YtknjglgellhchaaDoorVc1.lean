/-
  StmtText: the specification, by the ways through it.
-/
import Derived.Test.YtknjglgellhchaaDoorVb0
import Derived.Test.YtknjglgellhchaaDoorTc
import Derived.Test.YtknjglgellhchaaDoorVt
import Derived.Test.YtknjglgellhchaaDoorSa
import Derived.Deep.RegionHeld3
import Derived.Deep.DrawnRows
import Derived.BigQuiet
import Derived.Deep.QuietTactic
import Derived.Deep.RegionWith
import Derived.Deep.DeepCutAuto
import Derived.Deep.CutRange
namespace Go.Proofs.YtknjglgellhchaaDoor
open Go Go.RowKit
attribute [local go_sem ↓] Go.wp_at_zero Go.wp_at_succ

set_option linter.unusedVariables false
set_option linter.unusedSimpArgs false
set_option maxRecDepth 100000 in
set_option maxHeartbeats 8000000 in
theorem c_stS_I (tb i : Int) (u v : VV) (c : Int) (sa : Option Addr) (sn sc : Nat) (wa : Option Addr) (wn wc : Nat) (LS LW : List EN) (w : World) (h1 : u.2.2.size ≤ maxLen) (h2 : v.2.2.size ≤ maxLen) (s2 : RdE w sa sn LS) (hs : sn ≤ 1048576) (s3 : ∀ x ∈ LS, x.t.size ≤ maxLen) (w2 : RdE w wa wn LW) (hw : wn ≤ 1048576) (w3 : ∀ x ∈ LW, x.t.size ≤ maxLen) (htb : 1 ≤ tb ∧ tb ≤ 3) (hst : stB 2 tb (rowZ i u v) (rowB i u v) c sn (okX LS sn) wn (okX LW wn) 0 false = true) (hwn : (wn == 0) = true) :
    Calls Tryd.prog 40 #[.agg #[.int .i64 2, .int .i64 tb, .int .i64 i, .int .i64 u.1, .int .i64 u.2.1, .string u.2.2, .int .i64 v.1, .int .i64 v.2.1, .string v.2.2, .int .i64 c, .slice sa sn sc, .slice wa wn wc, .int .i64 0, .bool false]] w fun e w' => e = .returned (.string (joinS [⟨#[105, 110, 115, 101, 114, 116]⟩, itB tb, rwS i u v 0, rwS i u v 1, rwS i u v 2])) ∧ Below w.heap.size w w' := by
  obtain ⟨V, hV⟩ : ∃ W, w.alloc (.cells #[.int .i64 2, .int .i64 tb, .int .i64 i, .int .i64 u.1, .int .i64 u.2.1, .string u.2.2, .int .i64 v.1, .int .i64 v.2.1, .string v.2.2, .int .i64 c, .slice sa sn sc, .slice wa wn wc, .int .i64 0, .bool false] 52) = W := ⟨_, rfl⟩
  have BV : Hid (Below w.heap.size w V) := by unfold Hid; rw [← hV]; exact (Below.refl _ _).alloc (Nat.le_refl _) _
  have XV : Hid (Box V w.heap.size 52 #[.int .i64 2, .int .i64 tb, .int .i64 i, .int .i64 u.1, .int .i64 u.2.1, .string u.2.2, .int .i64 v.1, .int .i64 v.2.1, .string v.2.2, .int .i64 c, .slice sa sn sc, .slice wa wn wc, .int .i64 0, .bool false]) := by unfold Hid; rw [← hV]; exact Box.new _ _ _
  have HS : Hid (RdE V sa sn LS) := s2.below BV.out
  have HW : Hid (RdE V wa wn LW) := w2.below BV.out
  have S3 : Hid (∀ x ∈ LS, x.t.size ≤ maxLen) := s3
  have W3 : Hid (∀ x ∈ LW, x.t.size ≤ maxLen) := w3
  have zS : (xtS LS sn).size ≤ 1200 := xtS_size s2.1 s3
  have zW : (xtS LW wn).size ≤ 1200 := xtS_size w2.1 w3
  have zI : (itB tb).size ≤ 21 := itB_size (by omega) (by omega)
  have HI : Hid (∀ W : World, Calls Tryd.prog 80 #[.int .i64 tb] W fun e w' => e = .returned (.string (itB tb)) ∧ Below W.heap.size W w') := fun W => c_dig tb W (by omega) (by omega)
  have CN : Hid (∀ W : World, Calls Tryd.prog 79 #[.agg #[.slice wa wn wc]] W fun e w' => e = .returned (.bool true) ∧ Below W.heap.size W w') := fun W => by have h := c_none wa wn wc W; rw [hwn] at h; exact h
  have hrk : rowB i u v = true := by unfold stB at hst; simp at hst; exact hst.2.1
  have hk : rowK ⟨i, u.1, u.2.1, u.2.2, v.1, v.2.1, v.2.2⟩ = true := hrk
  obtain ⟨hi, hva, hvb⟩ := rowK_parts hk
  dsimp only at hi hva hvb
  have e0 : rwS i u v 0 = itB i := rwS0 hk
  have e1 : rwS i u v 1 = vtS u.1 u.2.1 u.2.2 := rfl
  have e2 : rwS i u v 2 = vtS v.1 v.2.1 v.2.2 := rfl
  have r0 : (itB i).size ≤ 21 := itB_size (by omega) (by omega)
  have r1 := vtS_size hva h1
  have r2 := vtS_size hvb h2
  rw [e0, e1, e2]
  obtain ⟨t0, ht0⟩ : ∃ s, itB i = s := ⟨_, rfl⟩
  obtain ⟨t1, ht1⟩ : ∃ s, vtS u.1 u.2.1 u.2.2 = s := ⟨_, rfl⟩
  obtain ⟨t2, ht2⟩ : ∃ s, vtS v.1 v.2.1 v.2.2 = s := ⟨_, rfl⟩
  have R0 : Hid (∀ W : World, Calls Tryd.prog 80 #[.int .i64 i] W fun e w' => e = .returned (.string t0) ∧ Below W.heap.size W w') := fun W => by rw [← ht0]; exact c_dig i W (by omega) (by omega)
  have R1 : Hid (∀ W : World, Calls Tryd.prog 60 #[.agg #[.int .i64 u.1, .int .i64 u.2.1, .string u.2.2]] W fun e w' => e = .returned (.string t1) ∧ Below W.heap.size W w') := fun W => by rw [← ht1]; exact c_l01T _ _ _ W hva
  have R2 : Hid (∀ W : World, Calls Tryd.prog 60 #[.agg #[.int .i64 v.1, .int .i64 v.2.1, .string v.2.2]] W fun e w' => e = .returned (.string t2) ∧ Below W.heap.size W w') := fun W => by rw [← ht2]; exact c_l01T _ _ _ W hvb
  rw [ht0] at r0 ⊢
  rw [ht1] at r1 ⊢
  rw [ht2] at r2 ⊢
  obtain ⟨sI, hsI⟩ : ∃ s, itB tb = s := ⟨_, rfl⟩
  rw [hsI] at HI zI ⊢
  obtain ⟨sW, hsW⟩ : ∃ s, xtS LW wn = s := ⟨_, rfl⟩
  rw [hsW] at zW
  obtain ⟨sS, hsS⟩ : ∃ s, xtS LS sn = s := ⟨_, rfl⟩
  rw [hsS] at zS
  have E : Hid (joinS [⟨#[105, 110, 115, 101, 114, 116]⟩, sI, t0, t1, t2] = (⟨#[105, 110, 115, 101, 114, 116]⟩ ++ ⟨#[32]⟩ ++ sI) ++ (⟨#[32]⟩ ++ t0 ++ ⟨#[32]⟩ ++ t1 ++ ⟨#[32]⟩ ++ t2)) := by
    apply ba_eq
    simp [joinS, Lib.join_cons, Lib.joinTail, ByteArray.data_append]
  rw [E.out]
  have LV : Hid (Below V.heap.size V V) := Below.refl _ _
  clear hst s2 s3 w2 w3 hsI hsW hsS E hrk hk hva hvb e0 e1 e2 ht0 ht1 ht2
  go_enter Tryd.func40, Tryd.ntmps40
  have lV : w.heap.size < V.heap.size := XV.out.lt
  go_upto_region 1 with fail
  have x0 : V.cell? ⟨w.heap.size, 0, none⟩ = some (.int .i64 2) := (XV.out.belowS LV.out).cell 0
  have x1 : V.cell? ⟨w.heap.size, 1, none⟩ = some (.int .i64 tb) := (XV.out.belowS LV.out).cell 1
  go_cut [3] (fun s wx => s = .string (⟨#[105, 110, 115, 101, 114, 116]⟩ ++ ⟨#[32]⟩ ++ sI) ∧ Hid (Below V.heap.size V wx))
  case first =>
    go_region_with ((go_at_call 80; refine (HI.out _).mono ?_; rintro e w2 ⟨rfl, hb2⟩; have Lw2 : Below V.heap.size V w2 := (by first | exact (Below.refl V.heap.size V).drew.trans hb2 | exact ((Below.refl V.heap.size V).alloc (Nat.le_refl _) _).drew.trans (hb2.mono (by simp)) | exact hb2 | trace_state); have y0 : w2.cell? ⟨w.heap.size, 0, none⟩ = some (.int .i64 2) := (XV.out.belowS Lw2).cell 0; have y1 : w2.cell? ⟨w.heap.size, 1, none⟩ = some (.int .i64 tb) := (XV.out.belowS Lw2).cell 1; have lw2 : w.heap.size < w2.heap.size := (XV.out.belowS Lw2).lt; first | (have kn : w2.cell? ⟨V.heap.size, 2, none⟩ = some (.string ⟨#[105, 110, 115, 101, 114, 116]⟩) := far6 hb2 (show (V.alloc (.cells #[.string ⟨#[]⟩, .string ⟨#[115, 101, 108, 101, 99, 116]⟩, .string ⟨#[105, 110, 115, 101, 114, 116]⟩, .string ⟨#[117, 112, 100, 97, 116, 101]⟩, .string ⟨#[100, 101, 108, 101, 116, 101]⟩] 9)).cell? ⟨V.heap.size, 2, none⟩ = some (.string ⟨#[105, 110, 115, 101, 114, 116]⟩) from (Box.new V #[.string ⟨#[]⟩, .string ⟨#[115, 101, 108, 101, 99, 116]⟩, .string ⟨#[105, 110, 115, 101, 114, 116]⟩, .string ⟨#[117, 112, 100, 97, 116, 101]⟩, .string ⟨#[100, 101, 108, 101, 116, 101]⟩] 9).cell 2)) | skip))
    all_goals
      go_wp2_with fail
      go_meet
      exact ⟨rfl, by unfold Hid; (first | exact Lw2 | exact Lw2.drew | exact Lw2.alloc Lw2.size _ | exact (Lw2.alloc Lw2.size _).drew)⟩
  case rest =>
    rename World => wq
    obtain ⟨rfl, Lwq⟩ := hcut
    clear x0 x1 hV LV HI
    have lc : w.heap.size < wq.heap.size := (XV.out.belowS Lwq.out).lt
    have x0 : wq.cell? ⟨w.heap.size, 0, none⟩ = some (.int .i64 2) := (XV.out.belowS Lwq.out).cell 0
    have x2 : wq.cell? ⟨w.heap.size, 2, none⟩ = some (.int .i64 i) := (XV.out.belowS Lwq.out).cell 2
    have x3 : wq.cell? ⟨w.heap.size, 3, none⟩ = some (.int .i64 u.1) := (XV.out.belowS Lwq.out).cell 3
    have x4 : wq.cell? ⟨w.heap.size, 4, none⟩ = some (.int .i64 u.2.1) := (XV.out.belowS Lwq.out).cell 4
    have x5 : wq.cell? ⟨w.heap.size, 5, none⟩ = some (.string u.2.2) := (XV.out.belowS Lwq.out).cell 5
    have x6 : wq.cell? ⟨w.heap.size, 6, none⟩ = some (.int .i64 v.1) := (XV.out.belowS Lwq.out).cell 6
    have x7 : wq.cell? ⟨w.heap.size, 7, none⟩ = some (.int .i64 v.2.1) := (XV.out.belowS Lwq.out).cell 7
    have x8 : wq.cell? ⟨w.heap.size, 8, none⟩ = some (.string v.2.2) := (XV.out.belowS Lwq.out).cell 8
    have q0 := fun r' : Out wq => q_cell x0 r'
    have q2 := fun r' : Out wq => q_cell x2 r'
    have q3 := fun r' : Out wq => q_cell x3 r'
    have q4 := fun r' : Out wq => q_cell x4 r'
    have q5 := fun r' : Out wq => q_cell x5 r'
    have q6 := fun r' : Out wq => q_cell x6 r'
    have q7 := fun r' : Out wq => q_cell x7 r'
    have q8 := fun r' : Out wq => q_cell x8 r'
    go_wp2_with fail
    clear x0 x2 x3 x4 x5 x6 x7 x8
    haveI nonE := Out.some wq
    refine q_begin (by kernel_rfl) (by kernel_rfl) ?_
    repeat (go_big_quiet_step (first | with_reducible exact q_call (R0.out _) | with_reducible exact q_call (R1.out _) | with_reducible exact q_call (R2.out _)))
    refine wpQuiet_nil ?_
    rintro w6 ⟨⟨y', hb3⟩, hy⟩
    have hy' : w6 = y' := hy
    clear hy
    subst hy'
    have Lw6 : Hid (Below V.heap.size V w6) := Lwq.out.trans (hb3.mono Lwq.out.size)
    clear hb3 R0 R1 R2 q0 q2 q3 q4 q5 q6 q7 q8
    have x0 : w6.cell? ⟨w.heap.size, 0, none⟩ = some (.int .i64 2) := (XV.out.belowS Lw6.out).cell 0
    have x11 : w6.cell? ⟨w.heap.size, 11, none⟩ = some (.slice wa wn wc) := (XV.out.belowS Lw6.out).cell 11
    go_wp2_with fail
    refine (CN.out w6).mono ?_
    rintro e w7 ⟨rfl, hb⟩
    have Lw7 : Hid (Below V.heap.size V w7) := Lw6.out.trans (hb.mono Lw6.out.size)
    clear hb CN x0 x11
    have x0 : w7.cell? ⟨w.heap.size, 0, none⟩ = some (.int .i64 2) := (XV.out.belowS Lw7.out).cell 0
    have x12 : w7.cell? ⟨w.heap.size, 12, none⟩ = some (.int .i64 0) := (XV.out.belowS Lw7.out).cell 12
    have x13 : w7.cell? ⟨w.heap.size, 13, none⟩ = some (.bool false) := (XV.out.belowS Lw7.out).cell 13
    have BX : Hid (Below w.heap.size w w7) := BV.out.trans (Lw7.out.mono BV.out.size)
    go_wp2
    go_ret
    exact ⟨rfl, BX.out⟩
set_option maxRecDepth 100000 in
set_option maxHeartbeats 8000000 in
theorem c_stS_D0 (tb i : Int) (u v : VV) (c : Int) (sa : Option Addr) (sn sc : Nat) (wa : Option Addr) (wn wc : Nat) (LS LW : List EN) (w : World) (h1 : u.2.2.size ≤ maxLen) (h2 : v.2.2.size ≤ maxLen) (s2 : RdE w sa sn LS) (hs : sn ≤ 1048576) (s3 : ∀ x ∈ LS, x.t.size ≤ maxLen) (w2 : RdE w wa wn LW) (hw : wn ≤ 1048576) (w3 : ∀ x ∈ LW, x.t.size ≤ maxLen) (htb : 1 ≤ tb ∧ tb ≤ 3) (hst : stB 4 tb (rowZ i u v) (rowB i u v) c sn (okX LS sn) wn (okX LW wn) 0 false = true) (hwn : (wn == 0) = true) :
    Calls Tryd.prog 40 #[.agg #[.int .i64 4, .int .i64 tb, .int .i64 i, .int .i64 u.1, .int .i64 u.2.1, .string u.2.2, .int .i64 v.1, .int .i64 v.2.1, .string v.2.2, .int .i64 c, .slice sa sn sc, .slice wa wn wc, .int .i64 0, .bool false]] w fun e w' => e = .returned (.string (joinS [⟨#[100, 101, 108, 101, 116, 101]⟩, itB tb])) ∧ Below w.heap.size w w' := by
  obtain ⟨V, hV⟩ : ∃ W, w.alloc (.cells #[.int .i64 4, .int .i64 tb, .int .i64 i, .int .i64 u.1, .int .i64 u.2.1, .string u.2.2, .int .i64 v.1, .int .i64 v.2.1, .string v.2.2, .int .i64 c, .slice sa sn sc, .slice wa wn wc, .int .i64 0, .bool false] 52) = W := ⟨_, rfl⟩
  have BV : Hid (Below w.heap.size w V) := by unfold Hid; rw [← hV]; exact (Below.refl _ _).alloc (Nat.le_refl _) _
  have XV : Hid (Box V w.heap.size 52 #[.int .i64 4, .int .i64 tb, .int .i64 i, .int .i64 u.1, .int .i64 u.2.1, .string u.2.2, .int .i64 v.1, .int .i64 v.2.1, .string v.2.2, .int .i64 c, .slice sa sn sc, .slice wa wn wc, .int .i64 0, .bool false]) := by unfold Hid; rw [← hV]; exact Box.new _ _ _
  have HS : Hid (RdE V sa sn LS) := s2.below BV.out
  have HW : Hid (RdE V wa wn LW) := w2.below BV.out
  have S3 : Hid (∀ x ∈ LS, x.t.size ≤ maxLen) := s3
  have W3 : Hid (∀ x ∈ LW, x.t.size ≤ maxLen) := w3
  have zS : (xtS LS sn).size ≤ 1200 := xtS_size s2.1 s3
  have zW : (xtS LW wn).size ≤ 1200 := xtS_size w2.1 w3
  have zI : (itB tb).size ≤ 21 := itB_size (by omega) (by omega)
  have HI : Hid (∀ W : World, Calls Tryd.prog 80 #[.int .i64 tb] W fun e w' => e = .returned (.string (itB tb)) ∧ Below W.heap.size W w') := fun W => c_dig tb W (by omega) (by omega)
  have CN : Hid (∀ W : World, Calls Tryd.prog 79 #[.agg #[.slice wa wn wc]] W fun e w' => e = .returned (.bool true) ∧ Below W.heap.size W w') := fun W => by have h := c_none wa wn wc W; rw [hwn] at h; exact h
  obtain ⟨sI, hsI⟩ : ∃ s, itB tb = s := ⟨_, rfl⟩
  rw [hsI] at HI zI ⊢
  obtain ⟨sW, hsW⟩ : ∃ s, xtS LW wn = s := ⟨_, rfl⟩
  rw [hsW] at zW
  obtain ⟨sS, hsS⟩ : ∃ s, xtS LS sn = s := ⟨_, rfl⟩
  rw [hsS] at zS
  have E : Hid (joinS [⟨#[100, 101, 108, 101, 116, 101]⟩, sI] = ⟨#[100, 101, 108, 101, 116, 101]⟩ ++ ⟨#[32]⟩ ++ sI) := by
    apply ba_eq
    simp [joinS, Lib.join_cons, Lib.joinTail, ByteArray.data_append]
  rw [E.out]
  have LV : Hid (Below V.heap.size V V) := Below.refl _ _
  clear hst s2 s3 w2 w3 hsI hsW hsS E
  go_enter Tryd.func40, Tryd.ntmps40
  have lV : w.heap.size < V.heap.size := XV.out.lt
  go_upto_region 1 with fail
  have x0 : V.cell? ⟨w.heap.size, 0, none⟩ = some (.int .i64 4) := (XV.out.belowS LV.out).cell 0
  have x1 : V.cell? ⟨w.heap.size, 1, none⟩ = some (.int .i64 tb) := (XV.out.belowS LV.out).cell 1
  go_cut [3] (fun s wx => s = .string (⟨#[100, 101, 108, 101, 116, 101]⟩ ++ ⟨#[32]⟩ ++ sI) ∧ Hid (Below V.heap.size V wx))
  case first =>
    go_region_with ((go_at_call 80; refine (HI.out _).mono ?_; rintro e w2 ⟨rfl, hb2⟩; have Lw2 : Below V.heap.size V w2 := (by first | exact (Below.refl V.heap.size V).drew.trans hb2 | exact ((Below.refl V.heap.size V).alloc (Nat.le_refl _) _).drew.trans (hb2.mono (by simp)) | exact hb2 | trace_state); have y0 : w2.cell? ⟨w.heap.size, 0, none⟩ = some (.int .i64 4) := (XV.out.belowS Lw2).cell 0; have y1 : w2.cell? ⟨w.heap.size, 1, none⟩ = some (.int .i64 tb) := (XV.out.belowS Lw2).cell 1; have lw2 : w.heap.size < w2.heap.size := (XV.out.belowS Lw2).lt; first | (have kn : w2.cell? ⟨V.heap.size, 4, none⟩ = some (.string ⟨#[100, 101, 108, 101, 116, 101]⟩) := far6 hb2 (show (V.alloc (.cells #[.string ⟨#[]⟩, .string ⟨#[115, 101, 108, 101, 99, 116]⟩, .string ⟨#[105, 110, 115, 101, 114, 116]⟩, .string ⟨#[117, 112, 100, 97, 116, 101]⟩, .string ⟨#[100, 101, 108, 101, 116, 101]⟩] 9)).cell? ⟨V.heap.size, 4, none⟩ = some (.string ⟨#[100, 101, 108, 101, 116, 101]⟩) from (Box.new V #[.string ⟨#[]⟩, .string ⟨#[115, 101, 108, 101, 99, 116]⟩, .string ⟨#[105, 110, 115, 101, 114, 116]⟩, .string ⟨#[117, 112, 100, 97, 116, 101]⟩, .string ⟨#[100, 101, 108, 101, 116, 101]⟩] 9).cell 4)) | skip))
    all_goals
      go_wp2_with fail
      go_meet
      exact ⟨rfl, by unfold Hid; (first | exact Lw2 | exact Lw2.drew | exact Lw2.alloc Lw2.size _ | exact (Lw2.alloc Lw2.size _).drew)⟩
  case rest =>
    rename World => wq
    obtain ⟨rfl, Lwq⟩ := hcut
    clear x0 x1 hV LV HI
    have lc : w.heap.size < wq.heap.size := (XV.out.belowS Lwq.out).lt
    have x0 : wq.cell? ⟨w.heap.size, 0, none⟩ = some (.int .i64 4) := (XV.out.belowS Lwq.out).cell 0
    have x11 : wq.cell? ⟨w.heap.size, 11, none⟩ = some (.slice wa wn wc) := (XV.out.belowS Lwq.out).cell 11
    go_wp2_with fail
    refine (CN.out wq).mono ?_
    rintro e w7 ⟨rfl, hb⟩
    have Lw7 : Hid (Below V.heap.size V w7) := Lwq.out.trans (hb.mono Lwq.out.size)
    clear hb CN x0 x11
    have x0 : w7.cell? ⟨w.heap.size, 0, none⟩ = some (.int .i64 4) := (XV.out.belowS Lw7.out).cell 0
    have x12 : w7.cell? ⟨w.heap.size, 12, none⟩ = some (.int .i64 0) := (XV.out.belowS Lw7.out).cell 12
    have x13 : w7.cell? ⟨w.heap.size, 13, none⟩ = some (.bool false) := (XV.out.belowS Lw7.out).cell 13
    have BX : Hid (Below w.heap.size w w7) := BV.out.trans (Lw7.out.mono BV.out.size)
    go_wp2
    go_ret
    exact ⟨rfl, BX.out⟩
set_option maxRecDepth 100000 in
set_option maxHeartbeats 8000000 in
theorem c_stS_D1 (tb i : Int) (u v : VV) (c : Int) (sa : Option Addr) (sn sc : Nat) (wa : Option Addr) (wn wc : Nat) (LS LW : List EN) (w : World) (h1 : u.2.2.size ≤ maxLen) (h2 : v.2.2.size ≤ maxLen) (s2 : RdE w sa sn LS) (hs : sn ≤ 1048576) (s3 : ∀ x ∈ LS, x.t.size ≤ maxLen) (w2 : RdE w wa wn LW) (hw : wn ≤ 1048576) (w3 : ∀ x ∈ LW, x.t.size ≤ maxLen) (htb : 1 ≤ tb ∧ tb ≤ 3) (hst : stB 4 tb (rowZ i u v) (rowB i u v) c sn (okX LS sn) wn (okX LW wn) 0 false = true) (hwn : (wn == 0) = false) :
    Calls Tryd.prog 40 #[.agg #[.int .i64 4, .int .i64 tb, .int .i64 i, .int .i64 u.1, .int .i64 u.2.1, .string u.2.2, .int .i64 v.1, .int .i64 v.2.1, .string v.2.2, .int .i64 c, .slice sa sn sc, .slice wa wn wc, .int .i64 0, .bool false]] w fun e w' => e = .returned (.string (joinS [⟨#[100, 101, 108, 101, 116, 101]⟩, itB tb, ⟨#[119, 104, 101, 114, 101]⟩, xtS LW wn])) ∧ Below w.heap.size w w' := by
  obtain ⟨V, hV⟩ : ∃ W, w.alloc (.cells #[.int .i64 4, .int .i64 tb, .int .i64 i, .int .i64 u.1, .int .i64 u.2.1, .string u.2.2, .int .i64 v.1, .int .i64 v.2.1, .string v.2.2, .int .i64 c, .slice sa sn sc, .slice wa wn wc, .int .i64 0, .bool false] 52) = W := ⟨_, rfl⟩
  have BV : Hid (Below w.heap.size w V) := by unfold Hid; rw [← hV]; exact (Below.refl _ _).alloc (Nat.le_refl _) _
  have XV : Hid (Box V w.heap.size 52 #[.int .i64 4, .int .i64 tb, .int .i64 i, .int .i64 u.1, .int .i64 u.2.1, .string u.2.2, .int .i64 v.1, .int .i64 v.2.1, .string v.2.2, .int .i64 c, .slice sa sn sc, .slice wa wn wc, .int .i64 0, .bool false]) := by unfold Hid; rw [← hV]; exact Box.new _ _ _
  have HS : Hid (RdE V sa sn LS) := s2.below BV.out
  have HW : Hid (RdE V wa wn LW) := w2.below BV.out
  have S3 : Hid (∀ x ∈ LS, x.t.size ≤ maxLen) := s3
  have W3 : Hid (∀ x ∈ LW, x.t.size ≤ maxLen) := w3
  have zS : (xtS LS sn).size ≤ 1200 := xtS_size s2.1 s3
  have zW : (xtS LW wn).size ≤ 1200 := xtS_size w2.1 w3
  have zI : (itB tb).size ≤ 21 := itB_size (by omega) (by omega)
  have HI : Hid (∀ W : World, Calls Tryd.prog 80 #[.int .i64 tb] W fun e w' => e = .returned (.string (itB tb)) ∧ Below W.heap.size W w') := fun W => c_dig tb W (by omega) (by omega)
  have CN : Hid (∀ W : World, Calls Tryd.prog 79 #[.agg #[.slice wa wn wc]] W fun e w' => e = .returned (.bool false) ∧ Below W.heap.size W w') := fun W => by have h := c_none wa wn wc W; rw [hwn] at h; exact h
  have oW : okX LW wn = true := wh_ok hst hwn
  have CW : Hid (∀ W : World, Below V.heap.size V W → Calls Tryd.prog 29 #[.agg #[.slice wa wn wc], .int .i64 ((wn : Int) - 1)] W fun e w' => e = .returned (.string (xtS LW wn)) ∧ Below W.heap.size W w') := fun W hW => c_ltX LW wa wn wc W oW (HW.out.below hW) W3.out
  obtain ⟨sI, hsI⟩ : ∃ s, itB tb = s := ⟨_, rfl⟩
  rw [hsI] at HI zI ⊢
  obtain ⟨sW, hsW⟩ : ∃ s, xtS LW wn = s := ⟨_, rfl⟩
  rw [hsW] at zW CW ⊢
  obtain ⟨sS, hsS⟩ : ∃ s, xtS LS sn = s := ⟨_, rfl⟩
  rw [hsS] at zS
  have E : Hid (joinS [⟨#[100, 101, 108, 101, 116, 101]⟩, sI, ⟨#[119, 104, 101, 114, 101]⟩, sW] = (⟨#[100, 101, 108, 101, 116, 101]⟩ ++ ⟨#[32]⟩ ++ sI) ++ (⟨#[32, 119, 104, 101, 114, 101, 32]⟩ ++ sW)) := by
    apply ba_eq
    simp [joinS, Lib.join_cons, Lib.joinTail, ByteArray.data_append]
  rw [E.out]
  have LV : Hid (Below V.heap.size V V) := Below.refl _ _
  clear hst s2 s3 w2 w3 hsI hsW hsS E oW
  go_enter Tryd.func40, Tryd.ntmps40
  have lV : w.heap.size < V.heap.size := XV.out.lt
  go_upto_region 1 with fail
  have x0 : V.cell? ⟨w.heap.size, 0, none⟩ = some (.int .i64 4) := (XV.out.belowS LV.out).cell 0
  have x1 : V.cell? ⟨w.heap.size, 1, none⟩ = some (.int .i64 tb) := (XV.out.belowS LV.out).cell 1
  go_cut [3] (fun s wx => s = .string (⟨#[100, 101, 108, 101, 116, 101]⟩ ++ ⟨#[32]⟩ ++ sI) ∧ Hid (Below V.heap.size V wx))
  case first =>
    go_region_with ((go_at_call 80; refine (HI.out _).mono ?_; rintro e w2 ⟨rfl, hb2⟩; have Lw2 : Below V.heap.size V w2 := (by first | exact (Below.refl V.heap.size V).drew.trans hb2 | exact ((Below.refl V.heap.size V).alloc (Nat.le_refl _) _).drew.trans (hb2.mono (by simp)) | exact hb2 | trace_state); have y0 : w2.cell? ⟨w.heap.size, 0, none⟩ = some (.int .i64 4) := (XV.out.belowS Lw2).cell 0; have y1 : w2.cell? ⟨w.heap.size, 1, none⟩ = some (.int .i64 tb) := (XV.out.belowS Lw2).cell 1; have lw2 : w.heap.size < w2.heap.size := (XV.out.belowS Lw2).lt; first | (have kn : w2.cell? ⟨V.heap.size, 4, none⟩ = some (.string ⟨#[100, 101, 108, 101, 116, 101]⟩) := far6 hb2 (show (V.alloc (.cells #[.string ⟨#[]⟩, .string ⟨#[115, 101, 108, 101, 99, 116]⟩, .string ⟨#[105, 110, 115, 101, 114, 116]⟩, .string ⟨#[117, 112, 100, 97, 116, 101]⟩, .string ⟨#[100, 101, 108, 101, 116, 101]⟩] 9)).cell? ⟨V.heap.size, 4, none⟩ = some (.string ⟨#[100, 101, 108, 101, 116, 101]⟩) from (Box.new V #[.string ⟨#[]⟩, .string ⟨#[115, 101, 108, 101, 99, 116]⟩, .string ⟨#[105, 110, 115, 101, 114, 116]⟩, .string ⟨#[117, 112, 100, 97, 116, 101]⟩, .string ⟨#[100, 101, 108, 101, 116, 101]⟩] 9).cell 4)) | skip))
    all_goals
      go_wp2_with fail
      go_meet
      exact ⟨rfl, by unfold Hid; (first | exact Lw2 | exact Lw2.drew | exact Lw2.alloc Lw2.size _ | exact (Lw2.alloc Lw2.size _).drew)⟩
  case rest =>
    rename World => wq
    obtain ⟨rfl, Lwq⟩ := hcut
    clear x0 x1 hV LV HI
    have lc : w.heap.size < wq.heap.size := (XV.out.belowS Lwq.out).lt
    have x0 : wq.cell? ⟨w.heap.size, 0, none⟩ = some (.int .i64 4) := (XV.out.belowS Lwq.out).cell 0
    have x11 : wq.cell? ⟨w.heap.size, 11, none⟩ = some (.slice wa wn wc) := (XV.out.belowS Lwq.out).cell 11
    go_wp2_with fail
    refine (CN.out wq).mono ?_
    rintro e w7 ⟨rfl, hb⟩
    have Lw7 : Hid (Below V.heap.size V w7) := Lwq.out.trans (hb.mono Lwq.out.size)
    clear hb CN x0 x11
    have x11 : w7.cell? ⟨w.heap.size, 11, none⟩ = some (.slice wa wn wc) := (XV.out.belowS Lw7.out).cell 11
    have CW7 := CW.out w7 Lw7.out
    go_wp2_with fail
    refine CW7.mono ?_
    rintro e w8 ⟨rfl, hb⟩
    have Lw8 : Hid (Below V.heap.size V w8) := Lw7.out.trans (hb.mono Lw7.out.size)
    clear hb CW7 CW x11
    have x0 : w8.cell? ⟨w.heap.size, 0, none⟩ = some (.int .i64 4) := (XV.out.belowS Lw8.out).cell 0
    have x12 : w8.cell? ⟨w.heap.size, 12, none⟩ = some (.int .i64 0) := (XV.out.belowS Lw8.out).cell 12
    have x13 : w8.cell? ⟨w.heap.size, 13, none⟩ = some (.bool false) := (XV.out.belowS Lw8.out).cell 13
    have BX : Hid (Below w.heap.size w w8) := BV.out.trans (Lw8.out.mono BV.out.size)
    go_wp2
    go_ret
    exact ⟨rfl, BX.out⟩

end Go.Proofs.YtknjglgellhchaaDoor
