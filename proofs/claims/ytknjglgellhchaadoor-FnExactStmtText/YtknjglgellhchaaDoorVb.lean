/-
  StmtText: the program, by the ways through it.
-/
import Derived.Test.YtknjglgellhchaaDoorVb0
import Derived.Deep.RegionHeld3
namespace Go.Proofs.YtknjglgellhchaaDoor
open Go Go.RowKit
attribute [local go_sem ↓] Go.wp_at_zero Go.wp_at_succ

set_option linter.unusedVariables false
set_option linter.unusedSimpArgs false
set_option maxRecDepth 100000 in
set_option maxHeartbeats 8000000 in
theorem c_stI_I (tb i : Int) (u v : VV) (c : Int) (sa : Option Addr) (sn sc : Nat) (wa : Option Addr) (wn wc : Nat) (LS LW : List EN) (w : World) (h1 : u.2.2.size ≤ maxLen) (h2 : v.2.2.size ≤ maxLen) (s2 : RdE w sa sn LS) (hs : sn ≤ 1048576) (s3 : ∀ x ∈ LS, x.t.size ≤ maxLen) (w2 : RdE w wa wn LW) (hw : wn ≤ 1048576) (w3 : ∀ x ∈ LW, x.t.size ≤ maxLen) (T : TabX w) (htb : 1 ≤ tb ∧ tb ≤ 3) (hst : stB 2 tb (rowZ i u v) (rowB i u v) c sn (okX LS sn) wn (okX LW wn) 0 false = true) (hwn : (wn == 0) = true) :
    Calls Tryd.prog 20 #[.agg #[.int .i64 2, .int .i64 tb, .int .i64 i, .int .i64 u.1, .int .i64 u.2.1, .string u.2.2, .int .i64 v.1, .int .i64 v.2.1, .string v.2.2, .int .i64 c, .slice sa sn sc, .slice wa wn wc, .int .i64 0, .bool false]] w fun e w' => e = .returned (.tuple #[.string (joinS [⟨#[105, 110, 115, 101, 114, 116]⟩, itB tb, rwS i u v 0, rwS i u v 1, rwS i u v 2]), .int .i64 0]) ∧ Below w.heap.size w w' := by
  obtain ⟨V, hV⟩ : ∃ W, w.alloc (.cells #[.int .i64 2, .int .i64 tb, .int .i64 i, .int .i64 u.1, .int .i64 u.2.1, .string u.2.2, .int .i64 v.1, .int .i64 v.2.1, .string v.2.2, .int .i64 c, .slice sa sn sc, .slice wa wn wc, .int .i64 0, .bool false] 52) = W := ⟨_, rfl⟩
  have BV : Hid (Below w.heap.size w V) := by unfold Hid; rw [← hV]; exact (Below.refl _ _).alloc (Nat.le_refl _) _
  have XV : Hid (Box V w.heap.size 52 #[.int .i64 2, .int .i64 tb, .int .i64 i, .int .i64 u.1, .int .i64 u.2.1, .string u.2.2, .int .i64 v.1, .int .i64 v.2.1, .string v.2.2, .int .i64 c, .slice sa sn sc, .slice wa wn wc, .int .i64 0, .bool false]) := by unfold Hid; rw [← hV]; exact Box.new _ _ _
  have TV : Hid (TabX V) := T.below BV.out
  have HS : Hid (RdE V sa sn LS) := s2.below BV.out
  have HW : Hid (RdE V wa wn LW) := w2.below BV.out
  have S3 : Hid (∀ x ∈ LS, x.t.size ≤ maxLen) := s3
  have W3 : Hid (∀ x ∈ LW, x.t.size ≤ maxLen) := w3
  have CK := c_implSt 2 tb i u v c sa sn sc wa wn wc 0 false LS LW V h1 h2 (s2.below BV.out) hs s3 (w2.below BV.out) hw w3
  rw [hst] at CK
  obtain ⟨iI, giV, gz0, gz1, gz2⟩ := info_parts infoStr
  have hiI : Hid (Tryd.prog.info? 9 = some iI) := giV
  have hz0 : Hid (iI.zero = some (.string ⟨#[]⟩)) := gz0
  have hz1 : Hid (iI.size = 1) := gz1
  have hz2 : Hid (iI.bytes = 16) := gz2
  have zS : Hid ((xtS LS sn).size ≤ 1200) := xtS_size s2.1 s3
  have zW : Hid ((xtS LW wn).size ≤ 1200) := xtS_size w2.1 w3
  have HI : Hid (∀ W, TabX W → Calls Tryd.prog 43 #[.int .i64 tb] W fun e w' => e = .returned (.string (itB tb)) ∧ Below W.heap.size W w') := fun W t => c_itoaB tb (by omega) (by omega) W t.t.p
  have zI : Hid ((itB tb).size ≤ 21) := itB_size (by omega) (by omega)
  have hrk : rowB i u v = true := by unfold stB at hst; simp at hst; exact hst.2.1
  have zR : Hid ((rwS i u v 0).size ≤ 30 ∧ (rwS i u v 1).size ≤ 30 ∧ (rwS i u v 2).size ≤ 30) := rw_sizes hrk h1 h2
  have LV : Hid (Below V.heap.size V V) := Below.refl _ _
  have x0 : V.cell? ⟨w.heap.size, 0, none⟩ = some (.int .i64 2) := (XV.out.belowS LV.out).cell 0
  have x1 : V.cell? ⟨w.heap.size, 1, none⟩ = some (.int .i64 tb) := (XV.out.belowS LV.out).cell 1
  have x2 : V.cell? ⟨w.heap.size, 2, none⟩ = some (.int .i64 i) := (XV.out.belowS LV.out).cell 2
  have x3 : V.cell? ⟨w.heap.size, 3, none⟩ = some (.int .i64 u.1) := (XV.out.belowS LV.out).cell 3
  have x4 : V.cell? ⟨w.heap.size, 4, none⟩ = some (.int .i64 u.2.1) := (XV.out.belowS LV.out).cell 4
  have x5 : V.cell? ⟨w.heap.size, 5, none⟩ = some (.string u.2.2) := (XV.out.belowS LV.out).cell 5
  have x6 : V.cell? ⟨w.heap.size, 6, none⟩ = some (.int .i64 v.1) := (XV.out.belowS LV.out).cell 6
  have x7 : V.cell? ⟨w.heap.size, 7, none⟩ = some (.int .i64 v.2.1) := (XV.out.belowS LV.out).cell 7
  have x8 : V.cell? ⟨w.heap.size, 8, none⟩ = some (.string v.2.2) := (XV.out.belowS LV.out).cell 8
  have x9 : V.cell? ⟨w.heap.size, 9, none⟩ = some (.int .i64 c) := (XV.out.belowS LV.out).cell 9
  have x10 : V.cell? ⟨w.heap.size, 10, none⟩ = some (.slice sa sn sc) := (XV.out.belowS LV.out).cell 10
  have x11 : V.cell? ⟨w.heap.size, 11, none⟩ = some (.slice wa wn wc) := (XV.out.belowS LV.out).cell 11
  have x12 : V.cell? ⟨w.heap.size, 12, none⟩ = some (.int .i64 0) := (XV.out.belowS LV.out).cell 12
  have x13 : V.cell? ⟨w.heap.size, 13, none⟩ = some (.bool false) := (XV.out.belowS LV.out).cell 13
  clear giV gz0 gz1 gz2 hst T s2 s3 w2 w3
  go_enter Tryd.func20, Tryd.ntmps20
  go_wp2_with fail
  refine CK.mono ?_
  rintro e w1 ⟨rfl, hb⟩
  have Lw1 : Hid (Below V.heap.size V w1) := hb
  have l1 : V.heap.size ≤ w1.heap.size := hb.size
  clear hb CK hV LV x0 x1 x2 x3 x4 x5 x6 x7 x8 x9 x10 x11 x12 x13
  have x0 : w1.cell? ⟨w.heap.size, 0, none⟩ = some (.int .i64 2) := (XV.out.belowS Lw1.out).cell 0
  have x1 : w1.cell? ⟨w.heap.size, 1, none⟩ = some (.int .i64 tb) := (XV.out.belowS Lw1.out).cell 1
  have tk : w1.cell? ⟨0, 2, none⟩ = some (.string ⟨#[105, 110, 115, 101, 114, 116]⟩) := (TV.out.below Lw1.out).k.2.2.1
  go_wp2_with fail
  go_region_held3 (fun x => x.cell? ⟨w.heap.size, 0, none⟩ = some (.int .i64 2) ∧ x.cell? ⟨w.heap.size, 1, none⟩ = some (.int .i64 tb) ∧ x.cell? ⟨0, 2, none⟩ = some (.string ⟨#[105, 110, 115, 101, 114, 116]⟩))
    (first | exact ⟨far6 hb2 x0, far6 hb2 x1, far6 hb2 tk⟩ | go_keep)
    (first | (go_at_call 43; refine (HI.out _ ((TV.out.below Lw1.out).below (below_drewN (Below.refl _ _) _))).mono ?_; rintro e w2 ⟨rfl, hb2⟩))
  have hb : Below w1.heap.size w1 w2 := (Below.refl w1.heap.size w1).drew.trans hb2
  have Lw2 : Hid (Below V.heap.size V w2) := Lw1.out.trans (hb.mono l1)
  obtain ⟨w3, hw3⟩ : ∃ W, w2.alloc (.cells #[.string ⟨#[105, 110, 115, 101, 114, 116]⟩, .string (itB tb)] 9) = W := ⟨_, rfl⟩
  have hbb : Below w2.heap.size w2 w3 := by rw [← hw3]; exact (Below.refl _ _).alloc (Nat.le_refl _) _
  have Lw3 : Hid (Below V.heap.size V w3) := Lw2.out.trans (hbb.mono Lw2.out.size)
  have Ow3 : Hid (w3.ownsRow V.heap.size 9 1 (.slice (some ⟨w2.heap.size, 0, none⟩) 2 2) 2 (strs [⟨#[105, 110, 115, 101, 114, 116]⟩, itB tb])) := by unfold Hid; rw [← hw3]; exact World.ownsRow_lit w2 #[.string ⟨#[105, 110, 115, 101, 114, 116]⟩, .string (itB tb)] 2 Lw2.out.size (by unfold maxLen; omega) rfl
  have l3 : V.heap.size ≤ w3.heap.size := Lw3.out.size
  clear hb hbb hb2 x0 x1 tk l1 HI
  have x0 : w3.cell? ⟨w.heap.size, 0, none⟩ = some (.int .i64 2) := (XV.out.belowS Lw3.out).cell 0
  have x2 : w3.cell? ⟨w.heap.size, 2, none⟩ = some (.int .i64 i) := (XV.out.belowS Lw3.out).cell 2
  have x3 : w3.cell? ⟨w.heap.size, 3, none⟩ = some (.int .i64 u.1) := (XV.out.belowS Lw3.out).cell 3
  have x4 : w3.cell? ⟨w.heap.size, 4, none⟩ = some (.int .i64 u.2.1) := (XV.out.belowS Lw3.out).cell 4
  have x5 : w3.cell? ⟨w.heap.size, 5, none⟩ = some (.string u.2.2) := (XV.out.belowS Lw3.out).cell 5
  have x6 : w3.cell? ⟨w.heap.size, 6, none⟩ = some (.int .i64 v.1) := (XV.out.belowS Lw3.out).cell 6
  have x7 : w3.cell? ⟨w.heap.size, 7, none⟩ = some (.int .i64 v.2.1) := (XV.out.belowS Lw3.out).cell 7
  have x8 : w3.cell? ⟨w.heap.size, 8, none⟩ = some (.string v.2.2) := (XV.out.belowS Lw3.out).cell 8
  have C := c_rowW i u v w3 h1 h2 (TV.out.below Lw3.out).t.p
  go_wp2_with fail
  refine C.mono ?_
  rintro e w4 ⟨ar, cr, rfl, or, hb⟩
  have Lw4 : Hid (Below V.heap.size V w4) := Lw3.out.trans (hb.mono Lw3.out.size)
  have Ow4 : Hid (w4.ownsRow V.heap.size 9 1 (.slice (some ⟨w2.heap.size, 0, none⟩) 2 2) 2 (strs [⟨#[105, 110, 115, 101, 114, 116]⟩, itB tb])) := own_below Ow3.out hb
  have lw4 : V.heap.size ≤ w4.heap.size := Lw4.out.size
  obtain ⟨gr, rfl, hgr⟩ := own_some or (by omega)
  have HGR : Hid (∀ ad, some (⟨gr, 0, none⟩ : Addr) = some ad → ∀ j y, (strs [rwS i u v 0, rwS i u v 1, rwS i u v 2])[j]? = some y → w4.cell? (ad.add j) = some y) := hgr
  clear C hb or hgr hw3 x0 x2 x3 x4 x5 x6 x7 x8
  have C : Hid (∀ W, Below V.heap.size V W → Calls Tryd.prog 45 #[.agg #[.slice wa wn wc]] W fun e w' => e = .returned (.bool true) ∧ Below W.heap.size W w') := fun W hW => by have h := c_lacks wa wn wc W; rw [hwn] at h; exact h
  go_wp2_with (at_builtin; refine app_any _ rfl (.tmp 24) (.tmp 27) 34 rfl V.heap.size 9 iI (.string ⟨#[]⟩) 1 16 Tryd.underlying34 hiI.out hz0.out hz1.out hz2.out rfl (by omega) (.slice (some ⟨w2.heap.size, 0, none⟩) 2 2) 2 (strs [⟨#[105, 110, 115, 101, 114, 116]⟩, itB tb]) rfl (Ow4.out) _ 3 cr (strs [rwS i u v 0, rwS i u v 1, rwS i u v 2]) rfl (fun ex => by cases ex) rfl (HGR.out) (strs_cells _) (by unfold maxLen; omega) (by omega) (by omega) ?_; intro aw5 cw5 w5 how5 hgw5 hxw5; have Lw5 : Hid (Below V.heap.size V w5) := app_L0 Lw4.out Ow4.out hgw5; have Ow5 : Hid (w5.ownsRow V.heap.size 9 1 (.slice aw5 5 cw5) 5 (strs [⟨#[105, 110, 115, 101, 114, 116]⟩, itB tb, rwS i u v 0, rwS i u v 1, rwS i u v 2])) := how5; have lw5 : V.heap.size ≤ w5.heap.size := Lw5.out.size; clear how5 hgw5 hxw5; have x11 : w5.cell? ⟨w.heap.size, 11, none⟩ = some (.slice wa wn wc) := (XV.out.belowS Lw5.out).cell 11)
  refine (C.out _ Lw5.out).mono ?_
  rintro e w6 ⟨rfl, hb⟩
  have Lw6 : Hid (Below V.heap.size V w6) := Lw5.out.trans (hb.mono Lw5.out.size)
  have Ow6 : Hid (w6.ownsRow V.heap.size 9 1 (.slice aw5 5 cw5) 5 (strs [⟨#[105, 110, 115, 101, 114, 116]⟩, itB tb, rwS i u v 0, rwS i u v 1, rwS i u v 2])) := own_below Ow5.out hb
  have lw6 : V.heap.size ≤ w6.heap.size := Lw6.out.size
  clear C hb x11
  have x0 : w6.cell? ⟨w.heap.size, 0, none⟩ = some (.int .i64 2) := (XV.out.belowS Lw6.out).cell 0
  have x1 : w6.cell? ⟨w.heap.size, 1, none⟩ = some (.int .i64 tb) := (XV.out.belowS Lw6.out).cell 1
  have x2 : w6.cell? ⟨w.heap.size, 2, none⟩ = some (.int .i64 i) := (XV.out.belowS Lw6.out).cell 2
  have x3 : w6.cell? ⟨w.heap.size, 3, none⟩ = some (.int .i64 u.1) := (XV.out.belowS Lw6.out).cell 3
  have x4 : w6.cell? ⟨w.heap.size, 4, none⟩ = some (.int .i64 u.2.1) := (XV.out.belowS Lw6.out).cell 4
  have x5 : w6.cell? ⟨w.heap.size, 5, none⟩ = some (.string u.2.2) := (XV.out.belowS Lw6.out).cell 5
  have x6 : w6.cell? ⟨w.heap.size, 6, none⟩ = some (.int .i64 v.1) := (XV.out.belowS Lw6.out).cell 6
  have x7 : w6.cell? ⟨w.heap.size, 7, none⟩ = some (.int .i64 v.2.1) := (XV.out.belowS Lw6.out).cell 7
  have x8 : w6.cell? ⟨w.heap.size, 8, none⟩ = some (.string v.2.2) := (XV.out.belowS Lw6.out).cell 8
  have x9 : w6.cell? ⟨w.heap.size, 9, none⟩ = some (.int .i64 c) := (XV.out.belowS Lw6.out).cell 9
  have x10 : w6.cell? ⟨w.heap.size, 10, none⟩ = some (.slice sa sn sc) := (XV.out.belowS Lw6.out).cell 10
  have x11 : w6.cell? ⟨w.heap.size, 11, none⟩ = some (.slice wa wn wc) := (XV.out.belowS Lw6.out).cell 11
  have x12 : w6.cell? ⟨w.heap.size, 12, none⟩ = some (.int .i64 0) := (XV.out.belowS Lw6.out).cell 12
  have x13 : w6.cell? ⟨w.heap.size, 13, none⟩ = some (.bool false) := (XV.out.belowS Lw6.out).cell 13
  have C : Hid (∀ W, Below V.heap.size V W → Calls Tryd.prog 46 #[.agg #[.int .i64 2, .int .i64 tb, .int .i64 i, .int .i64 u.1, .int .i64 u.2.1, .string u.2.2, .int .i64 v.1, .int .i64 v.2.1, .string v.2.2, .int .i64 c, .slice sa sn sc, .slice wa wn wc, .int .i64 0, .bool false]] W fun e w' => e = .returned (.bool true) ∧ Below W.heap.size W w') := fun W hW => by have h := c_noOrd 2 tb i u v c sa sn sc wa wn wc 0 false W; rw [show noB 0 false = true from rfl] at h; exact h
  go_wp2_with fail
  refine (C.out _ Lw6.out).mono ?_
  rintro e w7 ⟨rfl, hb⟩
  have Lw7 : Hid (Below V.heap.size V w7) := Lw6.out.trans (hb.mono Lw6.out.size)
  have Ow7 : Hid (w7.ownsRow V.heap.size 9 1 (.slice aw5 5 cw5) 5 (strs [⟨#[105, 110, 115, 101, 114, 116]⟩, itB tb, rwS i u v 0, rwS i u v 1, rwS i u v 2])) := own_below Ow6.out hb
  have lw7 : V.heap.size ≤ w7.heap.size := Lw7.out.size
  clear C hb x0 x1 x2 x3 x4 x5 x6 x7 x8 x9 x10 x11 x12 x13
  have zj : (joinS [⟨#[105, 110, 115, 101, 114, 116]⟩, itB tb, rwS i u v 0, rwS i u v 1, rwS i u v 2]).size ≤ 100000000 := by
    have := join_size (⟨#[105, 110, 115, 101, 114, 116]⟩) [itB tb, rwS i u v 0, rwS i u v 1, rwS i u v 2] 1200 (fun y hy => by
      simp only [List.mem_cons, List.not_mem_nil, or_false] at hy
      rcases hy with rfl | rfl | rfl | rfl
      · exact (Nat.le_trans zI.out (by omega))
      · exact (Nat.le_trans zR.out.1 (by omega))
      · exact (Nat.le_trans zR.out.2.1 (by omega))
      · exact (Nat.le_trans zR.out.2.2 (by omega))
      )
    have h0 : (⟨#[105, 110, 115, 101, 114, 116]⟩ : ByteArray).size ≤ 10 := by decide
    simp only [List.length_cons, List.length_nil] at this
    omega
  have x13 : w7.cell? ⟨w.heap.size, 13, none⟩ = some (.bool false) := (XV.out.belowS Lw7.out).cell 13
  have HJ : Hid (∀ (W : World) (a : Option Addr) (c : Nat), W.ownsRow V.heap.size 9 1 (.slice a 5 c) 5 (strs [⟨#[105, 110, 115, 101, 114, 116]⟩, itB tb, rwS i u v 0, rwS i u v 1, rwS i u v 2]) → Calls Tryd.prog 47 #[.slice a 5 c, .string ⟨#[32]⟩] W fun e w' => e = .returned (.string (joinS [⟨#[105, 110, 115, 101, 114, 116]⟩, itB tb, rwS i u v 0, rwS i u v 1, rwS i u v 2])) ∧ Below W.heap.size W w') := fun W a c h => c_joinO V.heap.size a c 5 [⟨#[105, 110, 115, 101, 114, 116]⟩, itB tb, rwS i u v 0, rwS i u v 1, rwS i u v 2] W h (by omega) (by omega) zj
  clear zj
  go_wp2_with fail
  refine (HJ.out _ _ _ Ow7.out).mono ?_
  rintro e w8 ⟨rfl, hb⟩
  have BX : Hid (Below w.heap.size w w8) := BV.out.trans ((Lw7.out.trans (hb.mono Lw7.out.size)).mono BV.out.size)
  clear hb HJ
  go_wp2
  go_ret2
  exact ⟨rfl, BX.out⟩
set_option maxRecDepth 100000 in
set_option maxHeartbeats 8000000 in
theorem c_stI_U0 (tb i : Int) (u v : VV) (cn : Nat) (sa : Option Addr) (sn sc : Nat) (wa : Option Addr) (wn wc : Nat) (LS LW : List EN) (w : World) (h1 : u.2.2.size ≤ maxLen) (h2 : v.2.2.size ≤ maxLen) (s2 : RdE w sa sn LS) (hs : sn ≤ 1048576) (s3 : ∀ x ∈ LS, x.t.size ≤ maxLen) (w2 : RdE w wa wn LW) (hw : wn ≤ 1048576) (w3 : ∀ x ∈ LW, x.t.size ≤ maxLen) (T : TabX w) (htb : 1 ≤ tb ∧ tb ≤ 3) (hst : stB 3 tb (rowZ i u v) (rowB i u v) (cn : Int) sn (okX LS sn) wn (okX LW wn) 0 false = true) (hwn : (wn == 0) = true) (hcn : cn < 3) :
    Calls Tryd.prog 20 #[.agg #[.int .i64 3, .int .i64 tb, .int .i64 i, .int .i64 u.1, .int .i64 u.2.1, .string u.2.2, .int .i64 v.1, .int .i64 v.2.1, .string v.2.2, .int .i64 (cn : Int), .slice sa sn sc, .slice wa wn wc, .int .i64 0, .bool false]] w fun e w' => e = .returned (.tuple #[.string (joinS [⟨#[117, 112, 100, 97, 116, 101]⟩, itB tb, ⟨#[115, 101, 116]⟩, clT (cn : Int), ⟨#[61]⟩, xtS LS sn]), .int .i64 0]) ∧ Below w.heap.size w w' := by
  obtain ⟨V, hV⟩ : ∃ W, w.alloc (.cells #[.int .i64 3, .int .i64 tb, .int .i64 i, .int .i64 u.1, .int .i64 u.2.1, .string u.2.2, .int .i64 v.1, .int .i64 v.2.1, .string v.2.2, .int .i64 (cn : Int), .slice sa sn sc, .slice wa wn wc, .int .i64 0, .bool false] 52) = W := ⟨_, rfl⟩
  have BV : Hid (Below w.heap.size w V) := by unfold Hid; rw [← hV]; exact (Below.refl _ _).alloc (Nat.le_refl _) _
  have XV : Hid (Box V w.heap.size 52 #[.int .i64 3, .int .i64 tb, .int .i64 i, .int .i64 u.1, .int .i64 u.2.1, .string u.2.2, .int .i64 v.1, .int .i64 v.2.1, .string v.2.2, .int .i64 (cn : Int), .slice sa sn sc, .slice wa wn wc, .int .i64 0, .bool false]) := by unfold Hid; rw [← hV]; exact Box.new _ _ _
  have TV : Hid (TabX V) := T.below BV.out
  have HS : Hid (RdE V sa sn LS) := s2.below BV.out
  have HW : Hid (RdE V wa wn LW) := w2.below BV.out
  have S3 : Hid (∀ x ∈ LS, x.t.size ≤ maxLen) := s3
  have W3 : Hid (∀ x ∈ LW, x.t.size ≤ maxLen) := w3
  have CK := c_implSt 3 tb i u v (cn : Int) sa sn sc wa wn wc 0 false LS LW V h1 h2 (s2.below BV.out) hs s3 (w2.below BV.out) hw w3
  rw [hst] at CK
  obtain ⟨iI, giV, gz0, gz1, gz2⟩ := info_parts infoStr
  have hiI : Hid (Tryd.prog.info? 9 = some iI) := giV
  have hz0 : Hid (iI.zero = some (.string ⟨#[]⟩)) := gz0
  have hz1 : Hid (iI.size = 1) := gz1
  have hz2 : Hid (iI.bytes = 16) := gz2
  have zS : Hid ((xtS LS sn).size ≤ 1200) := xtS_size s2.1 s3
  have zW : Hid ((xtS LW wn).size ≤ 1200) := xtS_size w2.1 w3
  have HI : Hid (∀ W, TabX W → Calls Tryd.prog 43 #[.int .i64 tb] W fun e w' => e = .returned (.string (itB tb)) ∧ Below W.heap.size W w') := fun W t => c_itoaB tb (by omega) (by omega) W t.t.p
  have zI : Hid ((itB tb).size ≤ 21) := itB_size (by omega) (by omega)
  have LV : Hid (Below V.heap.size V V) := Below.refl _ _
  have x0 : V.cell? ⟨w.heap.size, 0, none⟩ = some (.int .i64 3) := (XV.out.belowS LV.out).cell 0
  have x1 : V.cell? ⟨w.heap.size, 1, none⟩ = some (.int .i64 tb) := (XV.out.belowS LV.out).cell 1
  have x2 : V.cell? ⟨w.heap.size, 2, none⟩ = some (.int .i64 i) := (XV.out.belowS LV.out).cell 2
  have x3 : V.cell? ⟨w.heap.size, 3, none⟩ = some (.int .i64 u.1) := (XV.out.belowS LV.out).cell 3
  have x4 : V.cell? ⟨w.heap.size, 4, none⟩ = some (.int .i64 u.2.1) := (XV.out.belowS LV.out).cell 4
  have x5 : V.cell? ⟨w.heap.size, 5, none⟩ = some (.string u.2.2) := (XV.out.belowS LV.out).cell 5
  have x6 : V.cell? ⟨w.heap.size, 6, none⟩ = some (.int .i64 v.1) := (XV.out.belowS LV.out).cell 6
  have x7 : V.cell? ⟨w.heap.size, 7, none⟩ = some (.int .i64 v.2.1) := (XV.out.belowS LV.out).cell 7
  have x8 : V.cell? ⟨w.heap.size, 8, none⟩ = some (.string v.2.2) := (XV.out.belowS LV.out).cell 8
  have x9 : V.cell? ⟨w.heap.size, 9, none⟩ = some (.int .i64 (cn : Int)) := (XV.out.belowS LV.out).cell 9
  have x10 : V.cell? ⟨w.heap.size, 10, none⟩ = some (.slice sa sn sc) := (XV.out.belowS LV.out).cell 10
  have x11 : V.cell? ⟨w.heap.size, 11, none⟩ = some (.slice wa wn wc) := (XV.out.belowS LV.out).cell 11
  have x12 : V.cell? ⟨w.heap.size, 12, none⟩ = some (.int .i64 0) := (XV.out.belowS LV.out).cell 12
  have x13 : V.cell? ⟨w.heap.size, 13, none⟩ = some (.bool false) := (XV.out.belowS LV.out).cell 13
  clear giV gz0 gz1 gz2 hst T s2 s3 w2 w3
  go_enter Tryd.func20, Tryd.ntmps20
  go_wp2_with fail
  refine CK.mono ?_
  rintro e w1 ⟨rfl, hb⟩
  have Lw1 : Hid (Below V.heap.size V w1) := hb
  have l1 : V.heap.size ≤ w1.heap.size := hb.size
  clear hb CK hV LV x0 x1 x2 x3 x4 x5 x6 x7 x8 x9 x10 x11 x12 x13
  have x0 : w1.cell? ⟨w.heap.size, 0, none⟩ = some (.int .i64 3) := (XV.out.belowS Lw1.out).cell 0
  have x1 : w1.cell? ⟨w.heap.size, 1, none⟩ = some (.int .i64 tb) := (XV.out.belowS Lw1.out).cell 1
  have tk : w1.cell? ⟨0, 3, none⟩ = some (.string ⟨#[117, 112, 100, 97, 116, 101]⟩) := (TV.out.below Lw1.out).k.2.2.2.1
  go_wp2_with fail
  go_region_held3 (fun x => x.cell? ⟨w.heap.size, 0, none⟩ = some (.int .i64 3) ∧ x.cell? ⟨w.heap.size, 1, none⟩ = some (.int .i64 tb) ∧ x.cell? ⟨0, 3, none⟩ = some (.string ⟨#[117, 112, 100, 97, 116, 101]⟩))
    (first | exact ⟨far6 hb2 x0, far6 hb2 x1, far6 hb2 tk⟩ | go_keep)
    (first | (go_at_call 43; refine (HI.out _ ((TV.out.below Lw1.out).below (below_drewN (Below.refl _ _) _))).mono ?_; rintro e w2 ⟨rfl, hb2⟩))
  have hb : Below w1.heap.size w1 w2 := (Below.refl w1.heap.size w1).drew.trans hb2
  have Lw2 : Hid (Below V.heap.size V w2) := Lw1.out.trans (hb.mono l1)
  obtain ⟨w3, hw3⟩ : ∃ W, w2.alloc (.cells #[.string ⟨#[117, 112, 100, 97, 116, 101]⟩, .string (itB tb)] 9) = W := ⟨_, rfl⟩
  have hbb : Below w2.heap.size w2 w3 := by rw [← hw3]; exact (Below.refl _ _).alloc (Nat.le_refl _) _
  have Lw3 : Hid (Below V.heap.size V w3) := Lw2.out.trans (hbb.mono Lw2.out.size)
  have Ow3 : Hid (w3.ownsRow V.heap.size 9 1 (.slice (some ⟨w2.heap.size, 0, none⟩) 2 2) 2 (strs [⟨#[117, 112, 100, 97, 116, 101]⟩, itB tb])) := by unfold Hid; rw [← hw3]; exact World.ownsRow_lit w2 #[.string ⟨#[117, 112, 100, 97, 116, 101]⟩, .string (itB tb)] 2 Lw2.out.size (by unfold maxLen; omega) rfl
  have l3 : V.heap.size ≤ w3.heap.size := Lw3.out.size
  clear hb hbb hb2 x0 x1 tk l1 HI
  have x0 : w3.cell? ⟨w.heap.size, 0, none⟩ = some (.int .i64 3) := (XV.out.belowS Lw3.out).cell 0
  have x10 : w3.cell? ⟨w.heap.size, 10, none⟩ = some (.slice sa sn sc) := (XV.out.belowS Lw3.out).cell 10
  have C : Hid (∀ W, Below V.heap.size V W → Calls Tryd.prog 10 #[.agg #[.slice sa sn sc]] W fun e w' => e = .returned (.tuple #[.string (xtS LS sn), .int .i64 (xtE LS sn)]) ∧ Below W.heap.size W w') := fun W hW => c_implT LS sa sn sc W (HS.out.below hW) hs S3.out (TV.out.below hW).t
  go_wp2_with fail
  refine (C.out _ Lw3.out).mono ?_
  rintro e w4 ⟨rfl, hb⟩
  have Lw4 : Hid (Below V.heap.size V w4) := Lw3.out.trans (hb.mono Lw3.out.size)
  have Ow4 : Hid (w4.ownsRow V.heap.size 9 1 (.slice (some ⟨w2.heap.size, 0, none⟩) 2 2) 2 (strs [⟨#[117, 112, 100, 97, 116, 101]⟩, itB tb])) := own_below Ow3.out hb
  have lw4 : V.heap.size ≤ w4.heap.size := Lw4.out.size
  clear C hb x0 x10
  clear hw3
  have x9 : w4.cell? ⟨w.heap.size, 9, none⟩ = some (.int .i64 (cn : Int)) := (XV.out.belowS Lw4.out).cell 9
  have tc := (TV.out.below Lw4.out).t.col cn hcn
  have g1 : (0 : Int) ≤ (cn : Int) := by omega
  have g2 : (cn : Int) < 3 := by omega
  have C : Hid (∀ W, Below V.heap.size V W → Calls Tryd.prog 45 #[.agg #[.slice wa wn wc]] W fun e w' => e = .returned (.bool true) ∧ Below W.heap.size W w') := fun W hW => by have h := c_lacks wa wn wc W; rw [hwn] at h; exact h
  go_wp2_with (at_builtin; refine app_any _ rfl (.tmp 37) (.tmp 43) 34 rfl V.heap.size 9 iI (.string ⟨#[]⟩) 1 16 Tryd.underlying34 hiI.out hz0.out hz1.out hz2.out rfl (by omega) (.slice (some ⟨w2.heap.size, 0, none⟩) 2 2) 2 (strs [⟨#[117, 112, 100, 97, 116, 101]⟩, itB tb]) rfl (own_below Ow4.out ((Below.refl _ _).alloc (Nat.le_refl _) _)) _ 4 4 (strs [⟨#[115, 101, 116]⟩, clT (cn : Int), ⟨#[61]⟩, xtS LS sn]) rfl (fun ex => by cases ex) rfl (new_atL _ [⟨#[115, 101, 116]⟩, clT (cn : Int), ⟨#[61]⟩, xtS LS sn] _ (by simp)) (strs_cells _) (by unfold maxLen; omega) (by omega) (by simp; omega) ?_; intro aw5 cw5 w5 how5 hgw5 hxw5; have Lw5 : Hid (Below V.heap.size V w5) := app_L1 Lw4.out Ow4.out hgw5; have Ow5 : Hid (w5.ownsRow V.heap.size 9 1 (.slice aw5 6 cw5) 6 (strs [⟨#[117, 112, 100, 97, 116, 101]⟩, itB tb, ⟨#[115, 101, 116]⟩, clT (cn : Int), ⟨#[61]⟩, xtS LS sn])) := how5; have lw5 : V.heap.size ≤ w5.heap.size := Lw5.out.size; clear how5 hgw5 hxw5; have x11 : w5.cell? ⟨w.heap.size, 11, none⟩ = some (.slice wa wn wc) := (XV.out.belowS Lw5.out).cell 11)
  refine (C.out _ Lw5.out).mono ?_
  rintro e w6 ⟨rfl, hb⟩
  have Lw6 : Hid (Below V.heap.size V w6) := Lw5.out.trans (hb.mono Lw5.out.size)
  have Ow6 : Hid (w6.ownsRow V.heap.size 9 1 (.slice aw5 6 cw5) 6 (strs [⟨#[117, 112, 100, 97, 116, 101]⟩, itB tb, ⟨#[115, 101, 116]⟩, clT (cn : Int), ⟨#[61]⟩, xtS LS sn])) := own_below Ow5.out hb
  have lw6 : V.heap.size ≤ w6.heap.size := Lw6.out.size
  clear C hb x11
  clear tc x9
  have x0 : w6.cell? ⟨w.heap.size, 0, none⟩ = some (.int .i64 3) := (XV.out.belowS Lw6.out).cell 0
  have x1 : w6.cell? ⟨w.heap.size, 1, none⟩ = some (.int .i64 tb) := (XV.out.belowS Lw6.out).cell 1
  have x2 : w6.cell? ⟨w.heap.size, 2, none⟩ = some (.int .i64 i) := (XV.out.belowS Lw6.out).cell 2
  have x3 : w6.cell? ⟨w.heap.size, 3, none⟩ = some (.int .i64 u.1) := (XV.out.belowS Lw6.out).cell 3
  have x4 : w6.cell? ⟨w.heap.size, 4, none⟩ = some (.int .i64 u.2.1) := (XV.out.belowS Lw6.out).cell 4
  have x5 : w6.cell? ⟨w.heap.size, 5, none⟩ = some (.string u.2.2) := (XV.out.belowS Lw6.out).cell 5
  have x6 : w6.cell? ⟨w.heap.size, 6, none⟩ = some (.int .i64 v.1) := (XV.out.belowS Lw6.out).cell 6
  have x7 : w6.cell? ⟨w.heap.size, 7, none⟩ = some (.int .i64 v.2.1) := (XV.out.belowS Lw6.out).cell 7
  have x8 : w6.cell? ⟨w.heap.size, 8, none⟩ = some (.string v.2.2) := (XV.out.belowS Lw6.out).cell 8
  have x9 : w6.cell? ⟨w.heap.size, 9, none⟩ = some (.int .i64 (cn : Int)) := (XV.out.belowS Lw6.out).cell 9
  have x10 : w6.cell? ⟨w.heap.size, 10, none⟩ = some (.slice sa sn sc) := (XV.out.belowS Lw6.out).cell 10
  have x11 : w6.cell? ⟨w.heap.size, 11, none⟩ = some (.slice wa wn wc) := (XV.out.belowS Lw6.out).cell 11
  have x12 : w6.cell? ⟨w.heap.size, 12, none⟩ = some (.int .i64 0) := (XV.out.belowS Lw6.out).cell 12
  have x13 : w6.cell? ⟨w.heap.size, 13, none⟩ = some (.bool false) := (XV.out.belowS Lw6.out).cell 13
  have C : Hid (∀ W, Below V.heap.size V W → Calls Tryd.prog 46 #[.agg #[.int .i64 3, .int .i64 tb, .int .i64 i, .int .i64 u.1, .int .i64 u.2.1, .string u.2.2, .int .i64 v.1, .int .i64 v.2.1, .string v.2.2, .int .i64 (cn : Int), .slice sa sn sc, .slice wa wn wc, .int .i64 0, .bool false]] W fun e w' => e = .returned (.bool true) ∧ Below W.heap.size W w') := fun W hW => by have h := c_noOrd 3 tb i u v (cn : Int) sa sn sc wa wn wc 0 false W; rw [show noB 0 false = true from rfl] at h; exact h
  go_wp2_with fail
  refine (C.out _ Lw6.out).mono ?_
  rintro e w7 ⟨rfl, hb⟩
  have Lw7 : Hid (Below V.heap.size V w7) := Lw6.out.trans (hb.mono Lw6.out.size)
  have Ow7 : Hid (w7.ownsRow V.heap.size 9 1 (.slice aw5 6 cw5) 6 (strs [⟨#[117, 112, 100, 97, 116, 101]⟩, itB tb, ⟨#[115, 101, 116]⟩, clT (cn : Int), ⟨#[61]⟩, xtS LS sn])) := own_below Ow6.out hb
  have lw7 : V.heap.size ≤ w7.heap.size := Lw7.out.size
  clear C hb x0 x1 x2 x3 x4 x5 x6 x7 x8 x9 x10 x11 x12 x13
  have zj : (joinS [⟨#[117, 112, 100, 97, 116, 101]⟩, itB tb, ⟨#[115, 101, 116]⟩, clT (cn : Int), ⟨#[61]⟩, xtS LS sn]).size ≤ 100000000 := by
    have := join_size (⟨#[117, 112, 100, 97, 116, 101]⟩) [itB tb, ⟨#[115, 101, 116]⟩, clT (cn : Int), ⟨#[61]⟩, xtS LS sn] 1200 (fun y hy => by
      simp only [List.mem_cons, List.not_mem_nil, or_false] at hy
      rcases hy with rfl | rfl | rfl | rfl | rfl
      · exact (Nat.le_trans zI.out (by omega))
      · exact (show (_ : Nat) ≤ 1200 by decide)
      · exact (Nat.le_trans (clT_size _) (by omega))
      · exact (show (_ : Nat) ≤ 1200 by decide)
      · exact zS.out
      )
    have h0 : (⟨#[117, 112, 100, 97, 116, 101]⟩ : ByteArray).size ≤ 10 := by decide
    simp only [List.length_cons, List.length_nil] at this
    omega
  have x13 : w7.cell? ⟨w.heap.size, 13, none⟩ = some (.bool false) := (XV.out.belowS Lw7.out).cell 13
  have HJ : Hid (∀ (W : World) (a : Option Addr) (c : Nat), W.ownsRow V.heap.size 9 1 (.slice a 6 c) 6 (strs [⟨#[117, 112, 100, 97, 116, 101]⟩, itB tb, ⟨#[115, 101, 116]⟩, clT (cn : Int), ⟨#[61]⟩, xtS LS sn]) → Calls Tryd.prog 47 #[.slice a 6 c, .string ⟨#[32]⟩] W fun e w' => e = .returned (.string (joinS [⟨#[117, 112, 100, 97, 116, 101]⟩, itB tb, ⟨#[115, 101, 116]⟩, clT (cn : Int), ⟨#[61]⟩, xtS LS sn])) ∧ Below W.heap.size W w') := fun W a c h => c_joinO V.heap.size a c 6 [⟨#[117, 112, 100, 97, 116, 101]⟩, itB tb, ⟨#[115, 101, 116]⟩, clT (cn : Int), ⟨#[61]⟩, xtS LS sn] W h (by omega) (by omega) zj
  clear zj
  go_wp2_with fail
  refine (HJ.out _ _ _ Ow7.out).mono ?_
  rintro e w8 ⟨rfl, hb⟩
  have BX : Hid (Below w.heap.size w w8) := BV.out.trans ((Lw7.out.trans (hb.mono Lw7.out.size)).mono BV.out.size)
  clear hb HJ
  go_wp2
  go_ret2
  exact ⟨rfl, BX.out⟩
set_option maxRecDepth 100000 in
set_option maxHeartbeats 8000000 in
theorem c_stI_U1 (tb i : Int) (u v : VV) (cn : Nat) (sa : Option Addr) (sn sc : Nat) (wa : Option Addr) (wn wc : Nat) (LS LW : List EN) (w : World) (h1 : u.2.2.size ≤ maxLen) (h2 : v.2.2.size ≤ maxLen) (s2 : RdE w sa sn LS) (hs : sn ≤ 1048576) (s3 : ∀ x ∈ LS, x.t.size ≤ maxLen) (w2 : RdE w wa wn LW) (hw : wn ≤ 1048576) (w3 : ∀ x ∈ LW, x.t.size ≤ maxLen) (T : TabX w) (htb : 1 ≤ tb ∧ tb ≤ 3) (hst : stB 3 tb (rowZ i u v) (rowB i u v) (cn : Int) sn (okX LS sn) wn (okX LW wn) 0 false = true) (hwn : (wn == 0) = false) (hcn : cn < 3) :
    Calls Tryd.prog 20 #[.agg #[.int .i64 3, .int .i64 tb, .int .i64 i, .int .i64 u.1, .int .i64 u.2.1, .string u.2.2, .int .i64 v.1, .int .i64 v.2.1, .string v.2.2, .int .i64 (cn : Int), .slice sa sn sc, .slice wa wn wc, .int .i64 0, .bool false]] w fun e w' => e = .returned (.tuple #[.string (joinS [⟨#[117, 112, 100, 97, 116, 101]⟩, itB tb, ⟨#[115, 101, 116]⟩, clT (cn : Int), ⟨#[61]⟩, xtS LS sn, ⟨#[119, 104, 101, 114, 101]⟩, xtS LW wn]), .int .i64 0]) ∧ Below w.heap.size w w' := by
  obtain ⟨V, hV⟩ : ∃ W, w.alloc (.cells #[.int .i64 3, .int .i64 tb, .int .i64 i, .int .i64 u.1, .int .i64 u.2.1, .string u.2.2, .int .i64 v.1, .int .i64 v.2.1, .string v.2.2, .int .i64 (cn : Int), .slice sa sn sc, .slice wa wn wc, .int .i64 0, .bool false] 52) = W := ⟨_, rfl⟩
  have BV : Hid (Below w.heap.size w V) := by unfold Hid; rw [← hV]; exact (Below.refl _ _).alloc (Nat.le_refl _) _
  have XV : Hid (Box V w.heap.size 52 #[.int .i64 3, .int .i64 tb, .int .i64 i, .int .i64 u.1, .int .i64 u.2.1, .string u.2.2, .int .i64 v.1, .int .i64 v.2.1, .string v.2.2, .int .i64 (cn : Int), .slice sa sn sc, .slice wa wn wc, .int .i64 0, .bool false]) := by unfold Hid; rw [← hV]; exact Box.new _ _ _
  have TV : Hid (TabX V) := T.below BV.out
  have HS : Hid (RdE V sa sn LS) := s2.below BV.out
  have HW : Hid (RdE V wa wn LW) := w2.below BV.out
  have S3 : Hid (∀ x ∈ LS, x.t.size ≤ maxLen) := s3
  have W3 : Hid (∀ x ∈ LW, x.t.size ≤ maxLen) := w3
  have CK := c_implSt 3 tb i u v (cn : Int) sa sn sc wa wn wc 0 false LS LW V h1 h2 (s2.below BV.out) hs s3 (w2.below BV.out) hw w3
  rw [hst] at CK
  obtain ⟨iI, giV, gz0, gz1, gz2⟩ := info_parts infoStr
  have hiI : Hid (Tryd.prog.info? 9 = some iI) := giV
  have hz0 : Hid (iI.zero = some (.string ⟨#[]⟩)) := gz0
  have hz1 : Hid (iI.size = 1) := gz1
  have hz2 : Hid (iI.bytes = 16) := gz2
  have zS : Hid ((xtS LS sn).size ≤ 1200) := xtS_size s2.1 s3
  have zW : Hid ((xtS LW wn).size ≤ 1200) := xtS_size w2.1 w3
  have HI : Hid (∀ W, TabX W → Calls Tryd.prog 43 #[.int .i64 tb] W fun e w' => e = .returned (.string (itB tb)) ∧ Below W.heap.size W w') := fun W t => c_itoaB tb (by omega) (by omega) W t.t.p
  have zI : Hid ((itB tb).size ≤ 21) := itB_size (by omega) (by omega)
  have LV : Hid (Below V.heap.size V V) := Below.refl _ _
  have x0 : V.cell? ⟨w.heap.size, 0, none⟩ = some (.int .i64 3) := (XV.out.belowS LV.out).cell 0
  have x1 : V.cell? ⟨w.heap.size, 1, none⟩ = some (.int .i64 tb) := (XV.out.belowS LV.out).cell 1
  have x2 : V.cell? ⟨w.heap.size, 2, none⟩ = some (.int .i64 i) := (XV.out.belowS LV.out).cell 2
  have x3 : V.cell? ⟨w.heap.size, 3, none⟩ = some (.int .i64 u.1) := (XV.out.belowS LV.out).cell 3
  have x4 : V.cell? ⟨w.heap.size, 4, none⟩ = some (.int .i64 u.2.1) := (XV.out.belowS LV.out).cell 4
  have x5 : V.cell? ⟨w.heap.size, 5, none⟩ = some (.string u.2.2) := (XV.out.belowS LV.out).cell 5
  have x6 : V.cell? ⟨w.heap.size, 6, none⟩ = some (.int .i64 v.1) := (XV.out.belowS LV.out).cell 6
  have x7 : V.cell? ⟨w.heap.size, 7, none⟩ = some (.int .i64 v.2.1) := (XV.out.belowS LV.out).cell 7
  have x8 : V.cell? ⟨w.heap.size, 8, none⟩ = some (.string v.2.2) := (XV.out.belowS LV.out).cell 8
  have x9 : V.cell? ⟨w.heap.size, 9, none⟩ = some (.int .i64 (cn : Int)) := (XV.out.belowS LV.out).cell 9
  have x10 : V.cell? ⟨w.heap.size, 10, none⟩ = some (.slice sa sn sc) := (XV.out.belowS LV.out).cell 10
  have x11 : V.cell? ⟨w.heap.size, 11, none⟩ = some (.slice wa wn wc) := (XV.out.belowS LV.out).cell 11
  have x12 : V.cell? ⟨w.heap.size, 12, none⟩ = some (.int .i64 0) := (XV.out.belowS LV.out).cell 12
  have x13 : V.cell? ⟨w.heap.size, 13, none⟩ = some (.bool false) := (XV.out.belowS LV.out).cell 13
  clear giV gz0 gz1 gz2 hst T s2 s3 w2 w3
  go_enter Tryd.func20, Tryd.ntmps20
  go_wp2_with fail
  refine CK.mono ?_
  rintro e w1 ⟨rfl, hb⟩
  have Lw1 : Hid (Below V.heap.size V w1) := hb
  have l1 : V.heap.size ≤ w1.heap.size := hb.size
  clear hb CK hV LV x0 x1 x2 x3 x4 x5 x6 x7 x8 x9 x10 x11 x12 x13
  have x0 : w1.cell? ⟨w.heap.size, 0, none⟩ = some (.int .i64 3) := (XV.out.belowS Lw1.out).cell 0
  have x1 : w1.cell? ⟨w.heap.size, 1, none⟩ = some (.int .i64 tb) := (XV.out.belowS Lw1.out).cell 1
  have tk : w1.cell? ⟨0, 3, none⟩ = some (.string ⟨#[117, 112, 100, 97, 116, 101]⟩) := (TV.out.below Lw1.out).k.2.2.2.1
  go_wp2_with fail
  go_region_held3 (fun x => x.cell? ⟨w.heap.size, 0, none⟩ = some (.int .i64 3) ∧ x.cell? ⟨w.heap.size, 1, none⟩ = some (.int .i64 tb) ∧ x.cell? ⟨0, 3, none⟩ = some (.string ⟨#[117, 112, 100, 97, 116, 101]⟩))
    (first | exact ⟨far6 hb2 x0, far6 hb2 x1, far6 hb2 tk⟩ | go_keep)
    (first | (go_at_call 43; refine (HI.out _ ((TV.out.below Lw1.out).below (below_drewN (Below.refl _ _) _))).mono ?_; rintro e w2 ⟨rfl, hb2⟩))
  have hb : Below w1.heap.size w1 w2 := (Below.refl w1.heap.size w1).drew.trans hb2
  have Lw2 : Hid (Below V.heap.size V w2) := Lw1.out.trans (hb.mono l1)
  obtain ⟨w3, hw3⟩ : ∃ W, w2.alloc (.cells #[.string ⟨#[117, 112, 100, 97, 116, 101]⟩, .string (itB tb)] 9) = W := ⟨_, rfl⟩
  have hbb : Below w2.heap.size w2 w3 := by rw [← hw3]; exact (Below.refl _ _).alloc (Nat.le_refl _) _
  have Lw3 : Hid (Below V.heap.size V w3) := Lw2.out.trans (hbb.mono Lw2.out.size)
  have Ow3 : Hid (w3.ownsRow V.heap.size 9 1 (.slice (some ⟨w2.heap.size, 0, none⟩) 2 2) 2 (strs [⟨#[117, 112, 100, 97, 116, 101]⟩, itB tb])) := by unfold Hid; rw [← hw3]; exact World.ownsRow_lit w2 #[.string ⟨#[117, 112, 100, 97, 116, 101]⟩, .string (itB tb)] 2 Lw2.out.size (by unfold maxLen; omega) rfl
  have l3 : V.heap.size ≤ w3.heap.size := Lw3.out.size
  clear hb hbb hb2 x0 x1 tk l1 HI
  have x0 : w3.cell? ⟨w.heap.size, 0, none⟩ = some (.int .i64 3) := (XV.out.belowS Lw3.out).cell 0
  have x10 : w3.cell? ⟨w.heap.size, 10, none⟩ = some (.slice sa sn sc) := (XV.out.belowS Lw3.out).cell 10
  have C : Hid (∀ W, Below V.heap.size V W → Calls Tryd.prog 10 #[.agg #[.slice sa sn sc]] W fun e w' => e = .returned (.tuple #[.string (xtS LS sn), .int .i64 (xtE LS sn)]) ∧ Below W.heap.size W w') := fun W hW => c_implT LS sa sn sc W (HS.out.below hW) hs S3.out (TV.out.below hW).t
  go_wp2_with fail
  refine (C.out _ Lw3.out).mono ?_
  rintro e w4 ⟨rfl, hb⟩
  have Lw4 : Hid (Below V.heap.size V w4) := Lw3.out.trans (hb.mono Lw3.out.size)
  have Ow4 : Hid (w4.ownsRow V.heap.size 9 1 (.slice (some ⟨w2.heap.size, 0, none⟩) 2 2) 2 (strs [⟨#[117, 112, 100, 97, 116, 101]⟩, itB tb])) := own_below Ow3.out hb
  have lw4 : V.heap.size ≤ w4.heap.size := Lw4.out.size
  clear C hb x0 x10
  clear hw3
  have x9 : w4.cell? ⟨w.heap.size, 9, none⟩ = some (.int .i64 (cn : Int)) := (XV.out.belowS Lw4.out).cell 9
  have tc := (TV.out.below Lw4.out).t.col cn hcn
  have g1 : (0 : Int) ≤ (cn : Int) := by omega
  have g2 : (cn : Int) < 3 := by omega
  have C : Hid (∀ W, Below V.heap.size V W → Calls Tryd.prog 45 #[.agg #[.slice wa wn wc]] W fun e w' => e = .returned (.bool false) ∧ Below W.heap.size W w') := fun W hW => by have h := c_lacks wa wn wc W; rw [hwn] at h; exact h
  go_wp2_with (at_builtin; refine app_any _ rfl (.tmp 37) (.tmp 43) 34 rfl V.heap.size 9 iI (.string ⟨#[]⟩) 1 16 Tryd.underlying34 hiI.out hz0.out hz1.out hz2.out rfl (by omega) (.slice (some ⟨w2.heap.size, 0, none⟩) 2 2) 2 (strs [⟨#[117, 112, 100, 97, 116, 101]⟩, itB tb]) rfl (own_below Ow4.out ((Below.refl _ _).alloc (Nat.le_refl _) _)) _ 4 4 (strs [⟨#[115, 101, 116]⟩, clT (cn : Int), ⟨#[61]⟩, xtS LS sn]) rfl (fun ex => by cases ex) rfl (new_atL _ [⟨#[115, 101, 116]⟩, clT (cn : Int), ⟨#[61]⟩, xtS LS sn] _ (by simp)) (strs_cells _) (by unfold maxLen; omega) (by omega) (by simp; omega) ?_; intro aw5 cw5 w5 how5 hgw5 hxw5; have Lw5 : Hid (Below V.heap.size V w5) := app_L1 Lw4.out Ow4.out hgw5; have Ow5 : Hid (w5.ownsRow V.heap.size 9 1 (.slice aw5 6 cw5) 6 (strs [⟨#[117, 112, 100, 97, 116, 101]⟩, itB tb, ⟨#[115, 101, 116]⟩, clT (cn : Int), ⟨#[61]⟩, xtS LS sn])) := how5; have lw5 : V.heap.size ≤ w5.heap.size := Lw5.out.size; clear how5 hgw5 hxw5; have x11 : w5.cell? ⟨w.heap.size, 11, none⟩ = some (.slice wa wn wc) := (XV.out.belowS Lw5.out).cell 11)
  refine (C.out _ Lw5.out).mono ?_
  rintro e w6 ⟨rfl, hb⟩
  have Lw6 : Hid (Below V.heap.size V w6) := Lw5.out.trans (hb.mono Lw5.out.size)
  have Ow6 : Hid (w6.ownsRow V.heap.size 9 1 (.slice aw5 6 cw5) 6 (strs [⟨#[117, 112, 100, 97, 116, 101]⟩, itB tb, ⟨#[115, 101, 116]⟩, clT (cn : Int), ⟨#[61]⟩, xtS LS sn])) := own_below Ow5.out hb
  have lw6 : V.heap.size ≤ w6.heap.size := Lw6.out.size
  clear C hb x11
  clear tc x9
  have x11 : w6.cell? ⟨w.heap.size, 11, none⟩ = some (.slice wa wn wc) := (XV.out.belowS Lw6.out).cell 11
  have C : Hid (∀ W, Below V.heap.size V W → Calls Tryd.prog 10 #[.agg #[.slice wa wn wc]] W fun e w' => e = .returned (.tuple #[.string (xtS LW wn), .int .i64 (xtE LW wn)]) ∧ Below W.heap.size W w') := fun W hW => c_implT LW wa wn wc W (HW.out.below hW) hw W3.out (TV.out.below hW).t
  go_wp2_with fail
  refine (C.out _ Lw6.out).mono ?_
  rintro e w7 ⟨rfl, hb⟩
  have Lw7 : Hid (Below V.heap.size V w7) := Lw6.out.trans (hb.mono Lw6.out.size)
  have Ow7 : Hid (w7.ownsRow V.heap.size 9 1 (.slice aw5 6 cw5) 6 (strs [⟨#[117, 112, 100, 97, 116, 101]⟩, itB tb, ⟨#[115, 101, 116]⟩, clT (cn : Int), ⟨#[61]⟩, xtS LS sn])) := own_below Ow6.out hb
  have lw7 : V.heap.size ≤ w7.heap.size := Lw7.out.size
  clear C hb x11
  have C : Hid (∀ W, Below V.heap.size V W → Calls Tryd.prog 46 #[.agg #[.int .i64 3, .int .i64 tb, .int .i64 i, .int .i64 u.1, .int .i64 u.2.1, .string u.2.2, .int .i64 v.1, .int .i64 v.2.1, .string v.2.2, .int .i64 (cn : Int), .slice sa sn sc, .slice wa wn wc, .int .i64 0, .bool false]] W fun e w' => e = .returned (.bool true) ∧ Below W.heap.size W w') := fun W hW => by have h := c_noOrd 3 tb i u v (cn : Int) sa sn sc wa wn wc 0 false W; rw [show noB 0 false = true from rfl] at h; exact h
  go_wp2_with (at_builtin; refine app_any _ rfl (.tmp 55) (.tmp 57) 34 rfl V.heap.size 9 iI (.string ⟨#[]⟩) 1 16 Tryd.underlying34 hiI.out hz0.out hz1.out hz2.out rfl (by omega) (.slice aw5 6 cw5) 6 (strs [⟨#[117, 112, 100, 97, 116, 101]⟩, itB tb, ⟨#[115, 101, 116]⟩, clT (cn : Int), ⟨#[61]⟩, xtS LS sn]) rfl (own_below Ow7.out ((Below.refl _ _).alloc (Nat.le_refl _) _)) _ 2 2 (strs [⟨#[119, 104, 101, 114, 101]⟩, xtS LW wn]) rfl (fun ex => by cases ex) rfl (new_atL _ [⟨#[119, 104, 101, 114, 101]⟩, xtS LW wn] _ (by simp)) (strs_cells _) (by unfold maxLen; omega) (by omega) (by simp; omega) ?_; intro aw8 cw8 w8 how8 hgw8 hxw8; have Lw8 : Hid (Below V.heap.size V w8) := app_L1 Lw7.out Ow7.out hgw8; have Ow8 : Hid (w8.ownsRow V.heap.size 9 1 (.slice aw8 8 cw8) 8 (strs [⟨#[117, 112, 100, 97, 116, 101]⟩, itB tb, ⟨#[115, 101, 116]⟩, clT (cn : Int), ⟨#[61]⟩, xtS LS sn, ⟨#[119, 104, 101, 114, 101]⟩, xtS LW wn])) := how8; have lw8 : V.heap.size ≤ w8.heap.size := Lw8.out.size; clear how8 hgw8 hxw8; have x0 : w8.cell? ⟨w.heap.size, 0, none⟩ = some (.int .i64 3) := (XV.out.belowS Lw8.out).cell 0; have x1 : w8.cell? ⟨w.heap.size, 1, none⟩ = some (.int .i64 tb) := (XV.out.belowS Lw8.out).cell 1; have x2 : w8.cell? ⟨w.heap.size, 2, none⟩ = some (.int .i64 i) := (XV.out.belowS Lw8.out).cell 2; have x3 : w8.cell? ⟨w.heap.size, 3, none⟩ = some (.int .i64 u.1) := (XV.out.belowS Lw8.out).cell 3; have x4 : w8.cell? ⟨w.heap.size, 4, none⟩ = some (.int .i64 u.2.1) := (XV.out.belowS Lw8.out).cell 4; have x5 : w8.cell? ⟨w.heap.size, 5, none⟩ = some (.string u.2.2) := (XV.out.belowS Lw8.out).cell 5; have x6 : w8.cell? ⟨w.heap.size, 6, none⟩ = some (.int .i64 v.1) := (XV.out.belowS Lw8.out).cell 6; have x7 : w8.cell? ⟨w.heap.size, 7, none⟩ = some (.int .i64 v.2.1) := (XV.out.belowS Lw8.out).cell 7; have x8 : w8.cell? ⟨w.heap.size, 8, none⟩ = some (.string v.2.2) := (XV.out.belowS Lw8.out).cell 8; have x9 : w8.cell? ⟨w.heap.size, 9, none⟩ = some (.int .i64 (cn : Int)) := (XV.out.belowS Lw8.out).cell 9; have x10 : w8.cell? ⟨w.heap.size, 10, none⟩ = some (.slice sa sn sc) := (XV.out.belowS Lw8.out).cell 10; have x11 : w8.cell? ⟨w.heap.size, 11, none⟩ = some (.slice wa wn wc) := (XV.out.belowS Lw8.out).cell 11; have x12 : w8.cell? ⟨w.heap.size, 12, none⟩ = some (.int .i64 0) := (XV.out.belowS Lw8.out).cell 12; have x13 : w8.cell? ⟨w.heap.size, 13, none⟩ = some (.bool false) := (XV.out.belowS Lw8.out).cell 13)
  refine (C.out _ Lw8.out).mono ?_
  rintro e w9 ⟨rfl, hb⟩
  have Lw9 : Hid (Below V.heap.size V w9) := Lw8.out.trans (hb.mono Lw8.out.size)
  have Ow9 : Hid (w9.ownsRow V.heap.size 9 1 (.slice aw8 8 cw8) 8 (strs [⟨#[117, 112, 100, 97, 116, 101]⟩, itB tb, ⟨#[115, 101, 116]⟩, clT (cn : Int), ⟨#[61]⟩, xtS LS sn, ⟨#[119, 104, 101, 114, 101]⟩, xtS LW wn])) := own_below Ow8.out hb
  have lw9 : V.heap.size ≤ w9.heap.size := Lw9.out.size
  clear C hb x0 x1 x2 x3 x4 x5 x6 x7 x8 x9 x10 x11 x12 x13
  have zj : (joinS [⟨#[117, 112, 100, 97, 116, 101]⟩, itB tb, ⟨#[115, 101, 116]⟩, clT (cn : Int), ⟨#[61]⟩, xtS LS sn, ⟨#[119, 104, 101, 114, 101]⟩, xtS LW wn]).size ≤ 100000000 := by
    have := join_size (⟨#[117, 112, 100, 97, 116, 101]⟩) [itB tb, ⟨#[115, 101, 116]⟩, clT (cn : Int), ⟨#[61]⟩, xtS LS sn, ⟨#[119, 104, 101, 114, 101]⟩, xtS LW wn] 1200 (fun y hy => by
      simp only [List.mem_cons, List.not_mem_nil, or_false] at hy
      rcases hy with rfl | rfl | rfl | rfl | rfl | rfl | rfl
      · exact (Nat.le_trans zI.out (by omega))
      · exact (show (_ : Nat) ≤ 1200 by decide)
      · exact (Nat.le_trans (clT_size _) (by omega))
      · exact (show (_ : Nat) ≤ 1200 by decide)
      · exact zS.out
      · exact (show (_ : Nat) ≤ 1200 by decide)
      · exact zW.out
      )
    have h0 : (⟨#[117, 112, 100, 97, 116, 101]⟩ : ByteArray).size ≤ 10 := by decide
    simp only [List.length_cons, List.length_nil] at this
    omega
  have x13 : w9.cell? ⟨w.heap.size, 13, none⟩ = some (.bool false) := (XV.out.belowS Lw9.out).cell 13
  have HJ : Hid (∀ (W : World) (a : Option Addr) (c : Nat), W.ownsRow V.heap.size 9 1 (.slice a 8 c) 8 (strs [⟨#[117, 112, 100, 97, 116, 101]⟩, itB tb, ⟨#[115, 101, 116]⟩, clT (cn : Int), ⟨#[61]⟩, xtS LS sn, ⟨#[119, 104, 101, 114, 101]⟩, xtS LW wn]) → Calls Tryd.prog 47 #[.slice a 8 c, .string ⟨#[32]⟩] W fun e w' => e = .returned (.string (joinS [⟨#[117, 112, 100, 97, 116, 101]⟩, itB tb, ⟨#[115, 101, 116]⟩, clT (cn : Int), ⟨#[61]⟩, xtS LS sn, ⟨#[119, 104, 101, 114, 101]⟩, xtS LW wn])) ∧ Below W.heap.size W w') := fun W a c h => c_joinO V.heap.size a c 8 [⟨#[117, 112, 100, 97, 116, 101]⟩, itB tb, ⟨#[115, 101, 116]⟩, clT (cn : Int), ⟨#[61]⟩, xtS LS sn, ⟨#[119, 104, 101, 114, 101]⟩, xtS LW wn] W h (by omega) (by omega) zj
  clear zj
  go_wp2_with fail
  refine (HJ.out _ _ _ Ow9.out).mono ?_
  rintro e w10 ⟨rfl, hb⟩
  have BX : Hid (Below w.heap.size w w10) := BV.out.trans ((Lw9.out.trans (hb.mono Lw9.out.size)).mono BV.out.size)
  clear hb HJ
  go_wp2
  go_ret2
  exact ⟨rfl, BX.out⟩
set_option maxRecDepth 100000 in
set_option maxHeartbeats 8000000 in
theorem c_stI_D0 (tb i : Int) (u v : VV) (c : Int) (sa : Option Addr) (sn sc : Nat) (wa : Option Addr) (wn wc : Nat) (LS LW : List EN) (w : World) (h1 : u.2.2.size ≤ maxLen) (h2 : v.2.2.size ≤ maxLen) (s2 : RdE w sa sn LS) (hs : sn ≤ 1048576) (s3 : ∀ x ∈ LS, x.t.size ≤ maxLen) (w2 : RdE w wa wn LW) (hw : wn ≤ 1048576) (w3 : ∀ x ∈ LW, x.t.size ≤ maxLen) (T : TabX w) (htb : 1 ≤ tb ∧ tb ≤ 3) (hst : stB 4 tb (rowZ i u v) (rowB i u v) c sn (okX LS sn) wn (okX LW wn) 0 false = true) (hwn : (wn == 0) = true) :
    Calls Tryd.prog 20 #[.agg #[.int .i64 4, .int .i64 tb, .int .i64 i, .int .i64 u.1, .int .i64 u.2.1, .string u.2.2, .int .i64 v.1, .int .i64 v.2.1, .string v.2.2, .int .i64 c, .slice sa sn sc, .slice wa wn wc, .int .i64 0, .bool false]] w fun e w' => e = .returned (.tuple #[.string (joinS [⟨#[100, 101, 108, 101, 116, 101]⟩, itB tb]), .int .i64 0]) ∧ Below w.heap.size w w' := by
  obtain ⟨V, hV⟩ : ∃ W, w.alloc (.cells #[.int .i64 4, .int .i64 tb, .int .i64 i, .int .i64 u.1, .int .i64 u.2.1, .string u.2.2, .int .i64 v.1, .int .i64 v.2.1, .string v.2.2, .int .i64 c, .slice sa sn sc, .slice wa wn wc, .int .i64 0, .bool false] 52) = W := ⟨_, rfl⟩
  have BV : Hid (Below w.heap.size w V) := by unfold Hid; rw [← hV]; exact (Below.refl _ _).alloc (Nat.le_refl _) _
  have XV : Hid (Box V w.heap.size 52 #[.int .i64 4, .int .i64 tb, .int .i64 i, .int .i64 u.1, .int .i64 u.2.1, .string u.2.2, .int .i64 v.1, .int .i64 v.2.1, .string v.2.2, .int .i64 c, .slice sa sn sc, .slice wa wn wc, .int .i64 0, .bool false]) := by unfold Hid; rw [← hV]; exact Box.new _ _ _
  have TV : Hid (TabX V) := T.below BV.out
  have HS : Hid (RdE V sa sn LS) := s2.below BV.out
  have HW : Hid (RdE V wa wn LW) := w2.below BV.out
  have S3 : Hid (∀ x ∈ LS, x.t.size ≤ maxLen) := s3
  have W3 : Hid (∀ x ∈ LW, x.t.size ≤ maxLen) := w3
  have CK := c_implSt 4 tb i u v c sa sn sc wa wn wc 0 false LS LW V h1 h2 (s2.below BV.out) hs s3 (w2.below BV.out) hw w3
  rw [hst] at CK
  obtain ⟨iI, giV, gz0, gz1, gz2⟩ := info_parts infoStr
  have hiI : Hid (Tryd.prog.info? 9 = some iI) := giV
  have hz0 : Hid (iI.zero = some (.string ⟨#[]⟩)) := gz0
  have hz1 : Hid (iI.size = 1) := gz1
  have hz2 : Hid (iI.bytes = 16) := gz2
  have zS : Hid ((xtS LS sn).size ≤ 1200) := xtS_size s2.1 s3
  have zW : Hid ((xtS LW wn).size ≤ 1200) := xtS_size w2.1 w3
  have HI : Hid (∀ W, TabX W → Calls Tryd.prog 43 #[.int .i64 tb] W fun e w' => e = .returned (.string (itB tb)) ∧ Below W.heap.size W w') := fun W t => c_itoaB tb (by omega) (by omega) W t.t.p
  have zI : Hid ((itB tb).size ≤ 21) := itB_size (by omega) (by omega)
  have LV : Hid (Below V.heap.size V V) := Below.refl _ _
  have x0 : V.cell? ⟨w.heap.size, 0, none⟩ = some (.int .i64 4) := (XV.out.belowS LV.out).cell 0
  have x1 : V.cell? ⟨w.heap.size, 1, none⟩ = some (.int .i64 tb) := (XV.out.belowS LV.out).cell 1
  have x2 : V.cell? ⟨w.heap.size, 2, none⟩ = some (.int .i64 i) := (XV.out.belowS LV.out).cell 2
  have x3 : V.cell? ⟨w.heap.size, 3, none⟩ = some (.int .i64 u.1) := (XV.out.belowS LV.out).cell 3
  have x4 : V.cell? ⟨w.heap.size, 4, none⟩ = some (.int .i64 u.2.1) := (XV.out.belowS LV.out).cell 4
  have x5 : V.cell? ⟨w.heap.size, 5, none⟩ = some (.string u.2.2) := (XV.out.belowS LV.out).cell 5
  have x6 : V.cell? ⟨w.heap.size, 6, none⟩ = some (.int .i64 v.1) := (XV.out.belowS LV.out).cell 6
  have x7 : V.cell? ⟨w.heap.size, 7, none⟩ = some (.int .i64 v.2.1) := (XV.out.belowS LV.out).cell 7
  have x8 : V.cell? ⟨w.heap.size, 8, none⟩ = some (.string v.2.2) := (XV.out.belowS LV.out).cell 8
  have x9 : V.cell? ⟨w.heap.size, 9, none⟩ = some (.int .i64 c) := (XV.out.belowS LV.out).cell 9
  have x10 : V.cell? ⟨w.heap.size, 10, none⟩ = some (.slice sa sn sc) := (XV.out.belowS LV.out).cell 10
  have x11 : V.cell? ⟨w.heap.size, 11, none⟩ = some (.slice wa wn wc) := (XV.out.belowS LV.out).cell 11
  have x12 : V.cell? ⟨w.heap.size, 12, none⟩ = some (.int .i64 0) := (XV.out.belowS LV.out).cell 12
  have x13 : V.cell? ⟨w.heap.size, 13, none⟩ = some (.bool false) := (XV.out.belowS LV.out).cell 13
  clear giV gz0 gz1 gz2 hst T s2 s3 w2 w3
  go_enter Tryd.func20, Tryd.ntmps20
  go_wp2_with fail
  refine CK.mono ?_
  rintro e w1 ⟨rfl, hb⟩
  have Lw1 : Hid (Below V.heap.size V w1) := hb
  have l1 : V.heap.size ≤ w1.heap.size := hb.size
  clear hb CK hV LV x0 x1 x2 x3 x4 x5 x6 x7 x8 x9 x10 x11 x12 x13
  have x0 : w1.cell? ⟨w.heap.size, 0, none⟩ = some (.int .i64 4) := (XV.out.belowS Lw1.out).cell 0
  have x1 : w1.cell? ⟨w.heap.size, 1, none⟩ = some (.int .i64 tb) := (XV.out.belowS Lw1.out).cell 1
  have tk : w1.cell? ⟨0, 4, none⟩ = some (.string ⟨#[100, 101, 108, 101, 116, 101]⟩) := (TV.out.below Lw1.out).k.2.2.2.2
  go_wp2_with fail
  go_region_held3 (fun x => x.cell? ⟨w.heap.size, 0, none⟩ = some (.int .i64 4) ∧ x.cell? ⟨w.heap.size, 1, none⟩ = some (.int .i64 tb) ∧ x.cell? ⟨0, 4, none⟩ = some (.string ⟨#[100, 101, 108, 101, 116, 101]⟩))
    (first | exact ⟨far6 hb2 x0, far6 hb2 x1, far6 hb2 tk⟩ | go_keep)
    (first | (go_at_call 43; refine (HI.out _ ((TV.out.below Lw1.out).below (below_drewN (Below.refl _ _) _))).mono ?_; rintro e w2 ⟨rfl, hb2⟩))
  have hb : Below w1.heap.size w1 w2 := (Below.refl w1.heap.size w1).drew.trans hb2
  have Lw2 : Hid (Below V.heap.size V w2) := Lw1.out.trans (hb.mono l1)
  obtain ⟨w3, hw3⟩ : ∃ W, w2.alloc (.cells #[.string ⟨#[100, 101, 108, 101, 116, 101]⟩, .string (itB tb)] 9) = W := ⟨_, rfl⟩
  have hbb : Below w2.heap.size w2 w3 := by rw [← hw3]; exact (Below.refl _ _).alloc (Nat.le_refl _) _
  have Lw3 : Hid (Below V.heap.size V w3) := Lw2.out.trans (hbb.mono Lw2.out.size)
  have Ow3 : Hid (w3.ownsRow V.heap.size 9 1 (.slice (some ⟨w2.heap.size, 0, none⟩) 2 2) 2 (strs [⟨#[100, 101, 108, 101, 116, 101]⟩, itB tb])) := by unfold Hid; rw [← hw3]; exact World.ownsRow_lit w2 #[.string ⟨#[100, 101, 108, 101, 116, 101]⟩, .string (itB tb)] 2 Lw2.out.size (by unfold maxLen; omega) rfl
  have l3 : V.heap.size ≤ w3.heap.size := Lw3.out.size
  clear hb hbb hb2 x0 x1 tk l1 HI
  have x0 : w3.cell? ⟨w.heap.size, 0, none⟩ = some (.int .i64 4) := (XV.out.belowS Lw3.out).cell 0
  have x11 : w3.cell? ⟨w.heap.size, 11, none⟩ = some (.slice wa wn wc) := (XV.out.belowS Lw3.out).cell 11
  have C : Hid (∀ W, Below V.heap.size V W → Calls Tryd.prog 45 #[.agg #[.slice wa wn wc]] W fun e w' => e = .returned (.bool true) ∧ Below W.heap.size W w') := fun W hW => by have h := c_lacks wa wn wc W; rw [hwn] at h; exact h
  go_wp2_with fail
  refine (C.out _ Lw3.out).mono ?_
  rintro e w4 ⟨rfl, hb⟩
  have Lw4 : Hid (Below V.heap.size V w4) := Lw3.out.trans (hb.mono Lw3.out.size)
  have Ow4 : Hid (w4.ownsRow V.heap.size 9 1 (.slice (some ⟨w2.heap.size, 0, none⟩) 2 2) 2 (strs [⟨#[100, 101, 108, 101, 116, 101]⟩, itB tb])) := own_below Ow3.out hb
  have lw4 : V.heap.size ≤ w4.heap.size := Lw4.out.size
  clear C hb x0 x11
  clear hw3
  have x0 : w4.cell? ⟨w.heap.size, 0, none⟩ = some (.int .i64 4) := (XV.out.belowS Lw4.out).cell 0
  have x1 : w4.cell? ⟨w.heap.size, 1, none⟩ = some (.int .i64 tb) := (XV.out.belowS Lw4.out).cell 1
  have x2 : w4.cell? ⟨w.heap.size, 2, none⟩ = some (.int .i64 i) := (XV.out.belowS Lw4.out).cell 2
  have x3 : w4.cell? ⟨w.heap.size, 3, none⟩ = some (.int .i64 u.1) := (XV.out.belowS Lw4.out).cell 3
  have x4 : w4.cell? ⟨w.heap.size, 4, none⟩ = some (.int .i64 u.2.1) := (XV.out.belowS Lw4.out).cell 4
  have x5 : w4.cell? ⟨w.heap.size, 5, none⟩ = some (.string u.2.2) := (XV.out.belowS Lw4.out).cell 5
  have x6 : w4.cell? ⟨w.heap.size, 6, none⟩ = some (.int .i64 v.1) := (XV.out.belowS Lw4.out).cell 6
  have x7 : w4.cell? ⟨w.heap.size, 7, none⟩ = some (.int .i64 v.2.1) := (XV.out.belowS Lw4.out).cell 7
  have x8 : w4.cell? ⟨w.heap.size, 8, none⟩ = some (.string v.2.2) := (XV.out.belowS Lw4.out).cell 8
  have x9 : w4.cell? ⟨w.heap.size, 9, none⟩ = some (.int .i64 c) := (XV.out.belowS Lw4.out).cell 9
  have x10 : w4.cell? ⟨w.heap.size, 10, none⟩ = some (.slice sa sn sc) := (XV.out.belowS Lw4.out).cell 10
  have x11 : w4.cell? ⟨w.heap.size, 11, none⟩ = some (.slice wa wn wc) := (XV.out.belowS Lw4.out).cell 11
  have x12 : w4.cell? ⟨w.heap.size, 12, none⟩ = some (.int .i64 0) := (XV.out.belowS Lw4.out).cell 12
  have x13 : w4.cell? ⟨w.heap.size, 13, none⟩ = some (.bool false) := (XV.out.belowS Lw4.out).cell 13
  have C : Hid (∀ W, Below V.heap.size V W → Calls Tryd.prog 46 #[.agg #[.int .i64 4, .int .i64 tb, .int .i64 i, .int .i64 u.1, .int .i64 u.2.1, .string u.2.2, .int .i64 v.1, .int .i64 v.2.1, .string v.2.2, .int .i64 c, .slice sa sn sc, .slice wa wn wc, .int .i64 0, .bool false]] W fun e w' => e = .returned (.bool true) ∧ Below W.heap.size W w') := fun W hW => by have h := c_noOrd 4 tb i u v c sa sn sc wa wn wc 0 false W; rw [show noB 0 false = true from rfl] at h; exact h
  go_wp2_with fail
  refine (C.out _ Lw4.out).mono ?_
  rintro e w5 ⟨rfl, hb⟩
  have Lw5 : Hid (Below V.heap.size V w5) := Lw4.out.trans (hb.mono Lw4.out.size)
  have Ow5 : Hid (w5.ownsRow V.heap.size 9 1 (.slice (some ⟨w2.heap.size, 0, none⟩) 2 2) 2 (strs [⟨#[100, 101, 108, 101, 116, 101]⟩, itB tb])) := own_below Ow4.out hb
  have lw5 : V.heap.size ≤ w5.heap.size := Lw5.out.size
  clear C hb x0 x1 x2 x3 x4 x5 x6 x7 x8 x9 x10 x11 x12 x13
  have zj : (joinS [⟨#[100, 101, 108, 101, 116, 101]⟩, itB tb]).size ≤ 100000000 := by
    have := join_size (⟨#[100, 101, 108, 101, 116, 101]⟩) [itB tb] 1200 (fun y hy => by
      simp only [List.mem_cons, List.not_mem_nil, or_false] at hy
      rcases hy with rfl
      · exact (Nat.le_trans zI.out (by omega))
      )
    have h0 : (⟨#[100, 101, 108, 101, 116, 101]⟩ : ByteArray).size ≤ 10 := by decide
    simp only [List.length_cons, List.length_nil] at this
    omega
  have x13 : w5.cell? ⟨w.heap.size, 13, none⟩ = some (.bool false) := (XV.out.belowS Lw5.out).cell 13
  have HJ : Hid (∀ (W : World) (a : Option Addr) (c : Nat), W.ownsRow V.heap.size 9 1 (.slice a 2 c) 2 (strs [⟨#[100, 101, 108, 101, 116, 101]⟩, itB tb]) → Calls Tryd.prog 47 #[.slice a 2 c, .string ⟨#[32]⟩] W fun e w' => e = .returned (.string (joinS [⟨#[100, 101, 108, 101, 116, 101]⟩, itB tb])) ∧ Below W.heap.size W w') := fun W a c h => c_joinO V.heap.size a c 2 [⟨#[100, 101, 108, 101, 116, 101]⟩, itB tb] W h (by omega) (by omega) zj
  clear zj
  go_wp2_with fail
  refine (HJ.out _ _ _ Ow5.out).mono ?_
  rintro e w6 ⟨rfl, hb⟩
  have BX : Hid (Below w.heap.size w w6) := BV.out.trans ((Lw5.out.trans (hb.mono Lw5.out.size)).mono BV.out.size)
  clear hb HJ
  go_wp2
  go_ret2
  exact ⟨rfl, BX.out⟩
set_option maxRecDepth 100000 in
set_option maxHeartbeats 8000000 in
theorem c_stI_D1 (tb i : Int) (u v : VV) (c : Int) (sa : Option Addr) (sn sc : Nat) (wa : Option Addr) (wn wc : Nat) (LS LW : List EN) (w : World) (h1 : u.2.2.size ≤ maxLen) (h2 : v.2.2.size ≤ maxLen) (s2 : RdE w sa sn LS) (hs : sn ≤ 1048576) (s3 : ∀ x ∈ LS, x.t.size ≤ maxLen) (w2 : RdE w wa wn LW) (hw : wn ≤ 1048576) (w3 : ∀ x ∈ LW, x.t.size ≤ maxLen) (T : TabX w) (htb : 1 ≤ tb ∧ tb ≤ 3) (hst : stB 4 tb (rowZ i u v) (rowB i u v) c sn (okX LS sn) wn (okX LW wn) 0 false = true) (hwn : (wn == 0) = false) :
    Calls Tryd.prog 20 #[.agg #[.int .i64 4, .int .i64 tb, .int .i64 i, .int .i64 u.1, .int .i64 u.2.1, .string u.2.2, .int .i64 v.1, .int .i64 v.2.1, .string v.2.2, .int .i64 c, .slice sa sn sc, .slice wa wn wc, .int .i64 0, .bool false]] w fun e w' => e = .returned (.tuple #[.string (joinS [⟨#[100, 101, 108, 101, 116, 101]⟩, itB tb, ⟨#[119, 104, 101, 114, 101]⟩, xtS LW wn]), .int .i64 0]) ∧ Below w.heap.size w w' := by
  obtain ⟨V, hV⟩ : ∃ W, w.alloc (.cells #[.int .i64 4, .int .i64 tb, .int .i64 i, .int .i64 u.1, .int .i64 u.2.1, .string u.2.2, .int .i64 v.1, .int .i64 v.2.1, .string v.2.2, .int .i64 c, .slice sa sn sc, .slice wa wn wc, .int .i64 0, .bool false] 52) = W := ⟨_, rfl⟩
  have BV : Hid (Below w.heap.size w V) := by unfold Hid; rw [← hV]; exact (Below.refl _ _).alloc (Nat.le_refl _) _
  have XV : Hid (Box V w.heap.size 52 #[.int .i64 4, .int .i64 tb, .int .i64 i, .int .i64 u.1, .int .i64 u.2.1, .string u.2.2, .int .i64 v.1, .int .i64 v.2.1, .string v.2.2, .int .i64 c, .slice sa sn sc, .slice wa wn wc, .int .i64 0, .bool false]) := by unfold Hid; rw [← hV]; exact Box.new _ _ _
  have TV : Hid (TabX V) := T.below BV.out
  have HS : Hid (RdE V sa sn LS) := s2.below BV.out
  have HW : Hid (RdE V wa wn LW) := w2.below BV.out
  have S3 : Hid (∀ x ∈ LS, x.t.size ≤ maxLen) := s3
  have W3 : Hid (∀ x ∈ LW, x.t.size ≤ maxLen) := w3
  have CK := c_implSt 4 tb i u v c sa sn sc wa wn wc 0 false LS LW V h1 h2 (s2.below BV.out) hs s3 (w2.below BV.out) hw w3
  rw [hst] at CK
  obtain ⟨iI, giV, gz0, gz1, gz2⟩ := info_parts infoStr
  have hiI : Hid (Tryd.prog.info? 9 = some iI) := giV
  have hz0 : Hid (iI.zero = some (.string ⟨#[]⟩)) := gz0
  have hz1 : Hid (iI.size = 1) := gz1
  have hz2 : Hid (iI.bytes = 16) := gz2
  have zS : Hid ((xtS LS sn).size ≤ 1200) := xtS_size s2.1 s3
  have zW : Hid ((xtS LW wn).size ≤ 1200) := xtS_size w2.1 w3
  have HI : Hid (∀ W, TabX W → Calls Tryd.prog 43 #[.int .i64 tb] W fun e w' => e = .returned (.string (itB tb)) ∧ Below W.heap.size W w') := fun W t => c_itoaB tb (by omega) (by omega) W t.t.p
  have zI : Hid ((itB tb).size ≤ 21) := itB_size (by omega) (by omega)
  have LV : Hid (Below V.heap.size V V) := Below.refl _ _
  have x0 : V.cell? ⟨w.heap.size, 0, none⟩ = some (.int .i64 4) := (XV.out.belowS LV.out).cell 0
  have x1 : V.cell? ⟨w.heap.size, 1, none⟩ = some (.int .i64 tb) := (XV.out.belowS LV.out).cell 1
  have x2 : V.cell? ⟨w.heap.size, 2, none⟩ = some (.int .i64 i) := (XV.out.belowS LV.out).cell 2
  have x3 : V.cell? ⟨w.heap.size, 3, none⟩ = some (.int .i64 u.1) := (XV.out.belowS LV.out).cell 3
  have x4 : V.cell? ⟨w.heap.size, 4, none⟩ = some (.int .i64 u.2.1) := (XV.out.belowS LV.out).cell 4
  have x5 : V.cell? ⟨w.heap.size, 5, none⟩ = some (.string u.2.2) := (XV.out.belowS LV.out).cell 5
  have x6 : V.cell? ⟨w.heap.size, 6, none⟩ = some (.int .i64 v.1) := (XV.out.belowS LV.out).cell 6
  have x7 : V.cell? ⟨w.heap.size, 7, none⟩ = some (.int .i64 v.2.1) := (XV.out.belowS LV.out).cell 7
  have x8 : V.cell? ⟨w.heap.size, 8, none⟩ = some (.string v.2.2) := (XV.out.belowS LV.out).cell 8
  have x9 : V.cell? ⟨w.heap.size, 9, none⟩ = some (.int .i64 c) := (XV.out.belowS LV.out).cell 9
  have x10 : V.cell? ⟨w.heap.size, 10, none⟩ = some (.slice sa sn sc) := (XV.out.belowS LV.out).cell 10
  have x11 : V.cell? ⟨w.heap.size, 11, none⟩ = some (.slice wa wn wc) := (XV.out.belowS LV.out).cell 11
  have x12 : V.cell? ⟨w.heap.size, 12, none⟩ = some (.int .i64 0) := (XV.out.belowS LV.out).cell 12
  have x13 : V.cell? ⟨w.heap.size, 13, none⟩ = some (.bool false) := (XV.out.belowS LV.out).cell 13
  clear giV gz0 gz1 gz2 hst T s2 s3 w2 w3
  go_enter Tryd.func20, Tryd.ntmps20
  go_wp2_with fail
  refine CK.mono ?_
  rintro e w1 ⟨rfl, hb⟩
  have Lw1 : Hid (Below V.heap.size V w1) := hb
  have l1 : V.heap.size ≤ w1.heap.size := hb.size
  clear hb CK hV LV x0 x1 x2 x3 x4 x5 x6 x7 x8 x9 x10 x11 x12 x13
  have x0 : w1.cell? ⟨w.heap.size, 0, none⟩ = some (.int .i64 4) := (XV.out.belowS Lw1.out).cell 0
  have x1 : w1.cell? ⟨w.heap.size, 1, none⟩ = some (.int .i64 tb) := (XV.out.belowS Lw1.out).cell 1
  have tk : w1.cell? ⟨0, 4, none⟩ = some (.string ⟨#[100, 101, 108, 101, 116, 101]⟩) := (TV.out.below Lw1.out).k.2.2.2.2
  go_wp2_with fail
  go_region_held3 (fun x => x.cell? ⟨w.heap.size, 0, none⟩ = some (.int .i64 4) ∧ x.cell? ⟨w.heap.size, 1, none⟩ = some (.int .i64 tb) ∧ x.cell? ⟨0, 4, none⟩ = some (.string ⟨#[100, 101, 108, 101, 116, 101]⟩))
    (first | exact ⟨far6 hb2 x0, far6 hb2 x1, far6 hb2 tk⟩ | go_keep)
    (first | (go_at_call 43; refine (HI.out _ ((TV.out.below Lw1.out).below (below_drewN (Below.refl _ _) _))).mono ?_; rintro e w2 ⟨rfl, hb2⟩))
  have hb : Below w1.heap.size w1 w2 := (Below.refl w1.heap.size w1).drew.trans hb2
  have Lw2 : Hid (Below V.heap.size V w2) := Lw1.out.trans (hb.mono l1)
  obtain ⟨w3, hw3⟩ : ∃ W, w2.alloc (.cells #[.string ⟨#[100, 101, 108, 101, 116, 101]⟩, .string (itB tb)] 9) = W := ⟨_, rfl⟩
  have hbb : Below w2.heap.size w2 w3 := by rw [← hw3]; exact (Below.refl _ _).alloc (Nat.le_refl _) _
  have Lw3 : Hid (Below V.heap.size V w3) := Lw2.out.trans (hbb.mono Lw2.out.size)
  have Ow3 : Hid (w3.ownsRow V.heap.size 9 1 (.slice (some ⟨w2.heap.size, 0, none⟩) 2 2) 2 (strs [⟨#[100, 101, 108, 101, 116, 101]⟩, itB tb])) := by unfold Hid; rw [← hw3]; exact World.ownsRow_lit w2 #[.string ⟨#[100, 101, 108, 101, 116, 101]⟩, .string (itB tb)] 2 Lw2.out.size (by unfold maxLen; omega) rfl
  have l3 : V.heap.size ≤ w3.heap.size := Lw3.out.size
  clear hb hbb hb2 x0 x1 tk l1 HI
  have x0 : w3.cell? ⟨w.heap.size, 0, none⟩ = some (.int .i64 4) := (XV.out.belowS Lw3.out).cell 0
  have x11 : w3.cell? ⟨w.heap.size, 11, none⟩ = some (.slice wa wn wc) := (XV.out.belowS Lw3.out).cell 11
  have C : Hid (∀ W, Below V.heap.size V W → Calls Tryd.prog 45 #[.agg #[.slice wa wn wc]] W fun e w' => e = .returned (.bool false) ∧ Below W.heap.size W w') := fun W hW => by have h := c_lacks wa wn wc W; rw [hwn] at h; exact h
  go_wp2_with fail
  refine (C.out _ Lw3.out).mono ?_
  rintro e w4 ⟨rfl, hb⟩
  have Lw4 : Hid (Below V.heap.size V w4) := Lw3.out.trans (hb.mono Lw3.out.size)
  have Ow4 : Hid (w4.ownsRow V.heap.size 9 1 (.slice (some ⟨w2.heap.size, 0, none⟩) 2 2) 2 (strs [⟨#[100, 101, 108, 101, 116, 101]⟩, itB tb])) := own_below Ow3.out hb
  have lw4 : V.heap.size ≤ w4.heap.size := Lw4.out.size
  clear C hb x0 x11
  clear hw3
  have x11 : w4.cell? ⟨w.heap.size, 11, none⟩ = some (.slice wa wn wc) := (XV.out.belowS Lw4.out).cell 11
  have C : Hid (∀ W, Below V.heap.size V W → Calls Tryd.prog 10 #[.agg #[.slice wa wn wc]] W fun e w' => e = .returned (.tuple #[.string (xtS LW wn), .int .i64 (xtE LW wn)]) ∧ Below W.heap.size W w') := fun W hW => c_implT LW wa wn wc W (HW.out.below hW) hw W3.out (TV.out.below hW).t
  go_wp2_with fail
  refine (C.out _ Lw4.out).mono ?_
  rintro e w5 ⟨rfl, hb⟩
  have Lw5 : Hid (Below V.heap.size V w5) := Lw4.out.trans (hb.mono Lw4.out.size)
  have Ow5 : Hid (w5.ownsRow V.heap.size 9 1 (.slice (some ⟨w2.heap.size, 0, none⟩) 2 2) 2 (strs [⟨#[100, 101, 108, 101, 116, 101]⟩, itB tb])) := own_below Ow4.out hb
  have lw5 : V.heap.size ≤ w5.heap.size := Lw5.out.size
  clear C hb x11
  have C : Hid (∀ W, Below V.heap.size V W → Calls Tryd.prog 46 #[.agg #[.int .i64 4, .int .i64 tb, .int .i64 i, .int .i64 u.1, .int .i64 u.2.1, .string u.2.2, .int .i64 v.1, .int .i64 v.2.1, .string v.2.2, .int .i64 c, .slice sa sn sc, .slice wa wn wc, .int .i64 0, .bool false]] W fun e w' => e = .returned (.bool true) ∧ Below W.heap.size W w') := fun W hW => by have h := c_noOrd 4 tb i u v c sa sn sc wa wn wc 0 false W; rw [show noB 0 false = true from rfl] at h; exact h
  go_wp2_with (at_builtin; refine app_any _ rfl (.tmp 55) (.tmp 57) 34 rfl V.heap.size 9 iI (.string ⟨#[]⟩) 1 16 Tryd.underlying34 hiI.out hz0.out hz1.out hz2.out rfl (by omega) (.slice (some ⟨w2.heap.size, 0, none⟩) 2 2) 2 (strs [⟨#[100, 101, 108, 101, 116, 101]⟩, itB tb]) rfl (own_below Ow5.out ((Below.refl _ _).alloc (Nat.le_refl _) _)) _ 2 2 (strs [⟨#[119, 104, 101, 114, 101]⟩, xtS LW wn]) rfl (fun ex => by cases ex) rfl (new_atL _ [⟨#[119, 104, 101, 114, 101]⟩, xtS LW wn] _ (by simp)) (strs_cells _) (by unfold maxLen; omega) (by omega) (by simp; omega) ?_; intro aw6 cw6 w6 how6 hgw6 hxw6; have Lw6 : Hid (Below V.heap.size V w6) := app_L1 Lw5.out Ow5.out hgw6; have Ow6 : Hid (w6.ownsRow V.heap.size 9 1 (.slice aw6 4 cw6) 4 (strs [⟨#[100, 101, 108, 101, 116, 101]⟩, itB tb, ⟨#[119, 104, 101, 114, 101]⟩, xtS LW wn])) := how6; have lw6 : V.heap.size ≤ w6.heap.size := Lw6.out.size; clear how6 hgw6 hxw6; have x0 : w6.cell? ⟨w.heap.size, 0, none⟩ = some (.int .i64 4) := (XV.out.belowS Lw6.out).cell 0; have x1 : w6.cell? ⟨w.heap.size, 1, none⟩ = some (.int .i64 tb) := (XV.out.belowS Lw6.out).cell 1; have x2 : w6.cell? ⟨w.heap.size, 2, none⟩ = some (.int .i64 i) := (XV.out.belowS Lw6.out).cell 2; have x3 : w6.cell? ⟨w.heap.size, 3, none⟩ = some (.int .i64 u.1) := (XV.out.belowS Lw6.out).cell 3; have x4 : w6.cell? ⟨w.heap.size, 4, none⟩ = some (.int .i64 u.2.1) := (XV.out.belowS Lw6.out).cell 4; have x5 : w6.cell? ⟨w.heap.size, 5, none⟩ = some (.string u.2.2) := (XV.out.belowS Lw6.out).cell 5; have x6 : w6.cell? ⟨w.heap.size, 6, none⟩ = some (.int .i64 v.1) := (XV.out.belowS Lw6.out).cell 6; have x7 : w6.cell? ⟨w.heap.size, 7, none⟩ = some (.int .i64 v.2.1) := (XV.out.belowS Lw6.out).cell 7; have x8 : w6.cell? ⟨w.heap.size, 8, none⟩ = some (.string v.2.2) := (XV.out.belowS Lw6.out).cell 8; have x9 : w6.cell? ⟨w.heap.size, 9, none⟩ = some (.int .i64 c) := (XV.out.belowS Lw6.out).cell 9; have x10 : w6.cell? ⟨w.heap.size, 10, none⟩ = some (.slice sa sn sc) := (XV.out.belowS Lw6.out).cell 10; have x11 : w6.cell? ⟨w.heap.size, 11, none⟩ = some (.slice wa wn wc) := (XV.out.belowS Lw6.out).cell 11; have x12 : w6.cell? ⟨w.heap.size, 12, none⟩ = some (.int .i64 0) := (XV.out.belowS Lw6.out).cell 12; have x13 : w6.cell? ⟨w.heap.size, 13, none⟩ = some (.bool false) := (XV.out.belowS Lw6.out).cell 13)
  refine (C.out _ Lw6.out).mono ?_
  rintro e w7 ⟨rfl, hb⟩
  have Lw7 : Hid (Below V.heap.size V w7) := Lw6.out.trans (hb.mono Lw6.out.size)
  have Ow7 : Hid (w7.ownsRow V.heap.size 9 1 (.slice aw6 4 cw6) 4 (strs [⟨#[100, 101, 108, 101, 116, 101]⟩, itB tb, ⟨#[119, 104, 101, 114, 101]⟩, xtS LW wn])) := own_below Ow6.out hb
  have lw7 : V.heap.size ≤ w7.heap.size := Lw7.out.size
  clear C hb x0 x1 x2 x3 x4 x5 x6 x7 x8 x9 x10 x11 x12 x13
  have zj : (joinS [⟨#[100, 101, 108, 101, 116, 101]⟩, itB tb, ⟨#[119, 104, 101, 114, 101]⟩, xtS LW wn]).size ≤ 100000000 := by
    have := join_size (⟨#[100, 101, 108, 101, 116, 101]⟩) [itB tb, ⟨#[119, 104, 101, 114, 101]⟩, xtS LW wn] 1200 (fun y hy => by
      simp only [List.mem_cons, List.not_mem_nil, or_false] at hy
      rcases hy with rfl | rfl | rfl
      · exact (Nat.le_trans zI.out (by omega))
      · exact (show (_ : Nat) ≤ 1200 by decide)
      · exact zW.out
      )
    have h0 : (⟨#[100, 101, 108, 101, 116, 101]⟩ : ByteArray).size ≤ 10 := by decide
    simp only [List.length_cons, List.length_nil] at this
    omega
  have x13 : w7.cell? ⟨w.heap.size, 13, none⟩ = some (.bool false) := (XV.out.belowS Lw7.out).cell 13
  have HJ : Hid (∀ (W : World) (a : Option Addr) (c : Nat), W.ownsRow V.heap.size 9 1 (.slice a 4 c) 4 (strs [⟨#[100, 101, 108, 101, 116, 101]⟩, itB tb, ⟨#[119, 104, 101, 114, 101]⟩, xtS LW wn]) → Calls Tryd.prog 47 #[.slice a 4 c, .string ⟨#[32]⟩] W fun e w' => e = .returned (.string (joinS [⟨#[100, 101, 108, 101, 116, 101]⟩, itB tb, ⟨#[119, 104, 101, 114, 101]⟩, xtS LW wn])) ∧ Below W.heap.size W w') := fun W a c h => c_joinO V.heap.size a c 4 [⟨#[100, 101, 108, 101, 116, 101]⟩, itB tb, ⟨#[119, 104, 101, 114, 101]⟩, xtS LW wn] W h (by omega) (by omega) zj
  clear zj
  go_wp2_with fail
  refine (HJ.out _ _ _ Ow7.out).mono ?_
  rintro e w8 ⟨rfl, hb⟩
  have BX : Hid (Below w.heap.size w w8) := BV.out.trans ((Lw7.out.trans (hb.mono Lw7.out.size)).mono BV.out.size)
  clear hb HJ
  go_wp2
  go_ret2
  exact ⟨rfl, BX.out⟩
set_option maxRecDepth 100000 in
set_option maxHeartbeats 8000000 in
theorem c_stI_S00 (tb i : Int) (u v : VV) (c : Int) (sa : Option Addr) (sn sc : Nat) (wa : Option Addr) (wn wc : Nat) (LS LW : List EN) (w : World) (h1 : u.2.2.size ≤ maxLen) (h2 : v.2.2.size ≤ maxLen) (s2 : RdE w sa sn LS) (hs : sn ≤ 1048576) (s3 : ∀ x ∈ LS, x.t.size ≤ maxLen) (w2 : RdE w wa wn LW) (hw : wn ≤ 1048576) (w3 : ∀ x ∈ LW, x.t.size ≤ maxLen) (T : TabX w) (htb : 1 ≤ tb ∧ tb ≤ 3) (hst : stB 1 tb (rowZ i u v) (rowB i u v) c sn (okX LS sn) wn (okX LW wn) 0 false = true) (hwn : (wn == 0) = true) :
    Calls Tryd.prog 20 #[.agg #[.int .i64 1, .int .i64 tb, .int .i64 i, .int .i64 u.1, .int .i64 u.2.1, .string u.2.2, .int .i64 v.1, .int .i64 v.2.1, .string v.2.2, .int .i64 c, .slice sa sn sc, .slice wa wn wc, .int .i64 0, .bool false]] w fun e w' => e = .returned (.tuple #[.string (joinS [⟨#[115, 101, 108, 101, 99, 116]⟩, itB tb]), .int .i64 0]) ∧ Below w.heap.size w w' := by
  obtain ⟨V, hV⟩ : ∃ W, w.alloc (.cells #[.int .i64 1, .int .i64 tb, .int .i64 i, .int .i64 u.1, .int .i64 u.2.1, .string u.2.2, .int .i64 v.1, .int .i64 v.2.1, .string v.2.2, .int .i64 c, .slice sa sn sc, .slice wa wn wc, .int .i64 0, .bool false] 52) = W := ⟨_, rfl⟩
  have BV : Hid (Below w.heap.size w V) := by unfold Hid; rw [← hV]; exact (Below.refl _ _).alloc (Nat.le_refl _) _
  have XV : Hid (Box V w.heap.size 52 #[.int .i64 1, .int .i64 tb, .int .i64 i, .int .i64 u.1, .int .i64 u.2.1, .string u.2.2, .int .i64 v.1, .int .i64 v.2.1, .string v.2.2, .int .i64 c, .slice sa sn sc, .slice wa wn wc, .int .i64 0, .bool false]) := by unfold Hid; rw [← hV]; exact Box.new _ _ _
  have TV : Hid (TabX V) := T.below BV.out
  have HS : Hid (RdE V sa sn LS) := s2.below BV.out
  have HW : Hid (RdE V wa wn LW) := w2.below BV.out
  have S3 : Hid (∀ x ∈ LS, x.t.size ≤ maxLen) := s3
  have W3 : Hid (∀ x ∈ LW, x.t.size ≤ maxLen) := w3
  have CK := c_implSt 1 tb i u v c sa sn sc wa wn wc 0 false LS LW V h1 h2 (s2.below BV.out) hs s3 (w2.below BV.out) hw w3
  rw [hst] at CK
  obtain ⟨iI, giV, gz0, gz1, gz2⟩ := info_parts infoStr
  have hiI : Hid (Tryd.prog.info? 9 = some iI) := giV
  have hz0 : Hid (iI.zero = some (.string ⟨#[]⟩)) := gz0
  have hz1 : Hid (iI.size = 1) := gz1
  have hz2 : Hid (iI.bytes = 16) := gz2
  have zS : Hid ((xtS LS sn).size ≤ 1200) := xtS_size s2.1 s3
  have zW : Hid ((xtS LW wn).size ≤ 1200) := xtS_size w2.1 w3
  have HI : Hid (∀ W, TabX W → Calls Tryd.prog 43 #[.int .i64 tb] W fun e w' => e = .returned (.string (itB tb)) ∧ Below W.heap.size W w') := fun W t => c_itoaB tb (by omega) (by omega) W t.t.p
  have zI : Hid ((itB tb).size ≤ 21) := itB_size (by omega) (by omega)
  have LV : Hid (Below V.heap.size V V) := Below.refl _ _
  have x0 : V.cell? ⟨w.heap.size, 0, none⟩ = some (.int .i64 1) := (XV.out.belowS LV.out).cell 0
  have x1 : V.cell? ⟨w.heap.size, 1, none⟩ = some (.int .i64 tb) := (XV.out.belowS LV.out).cell 1
  have x2 : V.cell? ⟨w.heap.size, 2, none⟩ = some (.int .i64 i) := (XV.out.belowS LV.out).cell 2
  have x3 : V.cell? ⟨w.heap.size, 3, none⟩ = some (.int .i64 u.1) := (XV.out.belowS LV.out).cell 3
  have x4 : V.cell? ⟨w.heap.size, 4, none⟩ = some (.int .i64 u.2.1) := (XV.out.belowS LV.out).cell 4
  have x5 : V.cell? ⟨w.heap.size, 5, none⟩ = some (.string u.2.2) := (XV.out.belowS LV.out).cell 5
  have x6 : V.cell? ⟨w.heap.size, 6, none⟩ = some (.int .i64 v.1) := (XV.out.belowS LV.out).cell 6
  have x7 : V.cell? ⟨w.heap.size, 7, none⟩ = some (.int .i64 v.2.1) := (XV.out.belowS LV.out).cell 7
  have x8 : V.cell? ⟨w.heap.size, 8, none⟩ = some (.string v.2.2) := (XV.out.belowS LV.out).cell 8
  have x9 : V.cell? ⟨w.heap.size, 9, none⟩ = some (.int .i64 c) := (XV.out.belowS LV.out).cell 9
  have x10 : V.cell? ⟨w.heap.size, 10, none⟩ = some (.slice sa sn sc) := (XV.out.belowS LV.out).cell 10
  have x11 : V.cell? ⟨w.heap.size, 11, none⟩ = some (.slice wa wn wc) := (XV.out.belowS LV.out).cell 11
  have x12 : V.cell? ⟨w.heap.size, 12, none⟩ = some (.int .i64 0) := (XV.out.belowS LV.out).cell 12
  have x13 : V.cell? ⟨w.heap.size, 13, none⟩ = some (.bool false) := (XV.out.belowS LV.out).cell 13
  clear giV gz0 gz1 gz2 hst T s2 s3 w2 w3
  go_enter Tryd.func20, Tryd.ntmps20
  go_wp2_with fail
  refine CK.mono ?_
  rintro e w1 ⟨rfl, hb⟩
  have Lw1 : Hid (Below V.heap.size V w1) := hb
  have l1 : V.heap.size ≤ w1.heap.size := hb.size
  clear hb CK hV LV x0 x1 x2 x3 x4 x5 x6 x7 x8 x9 x10 x11 x12 x13
  have x0 : w1.cell? ⟨w.heap.size, 0, none⟩ = some (.int .i64 1) := (XV.out.belowS Lw1.out).cell 0
  have x1 : w1.cell? ⟨w.heap.size, 1, none⟩ = some (.int .i64 tb) := (XV.out.belowS Lw1.out).cell 1
  have tk : w1.cell? ⟨0, 1, none⟩ = some (.string ⟨#[115, 101, 108, 101, 99, 116]⟩) := (TV.out.below Lw1.out).k.2.1
  go_wp2_with fail
  go_region_held3 (fun x => x.cell? ⟨w.heap.size, 0, none⟩ = some (.int .i64 1) ∧ x.cell? ⟨w.heap.size, 1, none⟩ = some (.int .i64 tb) ∧ x.cell? ⟨0, 1, none⟩ = some (.string ⟨#[115, 101, 108, 101, 99, 116]⟩))
    (first | exact ⟨far6 hb2 x0, far6 hb2 x1, far6 hb2 tk⟩ | go_keep)
    (first | (go_at_call 43; refine (HI.out _ ((TV.out.below Lw1.out).below (below_drewN (Below.refl _ _) _))).mono ?_; rintro e w2 ⟨rfl, hb2⟩))
  have hb : Below w1.heap.size w1 w2 := (Below.refl w1.heap.size w1).drew.trans hb2
  have Lw2 : Hid (Below V.heap.size V w2) := Lw1.out.trans (hb.mono l1)
  obtain ⟨w3, hw3⟩ : ∃ W, w2.alloc (.cells #[.string ⟨#[115, 101, 108, 101, 99, 116]⟩, .string (itB tb)] 9) = W := ⟨_, rfl⟩
  have hbb : Below w2.heap.size w2 w3 := by rw [← hw3]; exact (Below.refl _ _).alloc (Nat.le_refl _) _
  have Lw3 : Hid (Below V.heap.size V w3) := Lw2.out.trans (hbb.mono Lw2.out.size)
  have Ow3 : Hid (w3.ownsRow V.heap.size 9 1 (.slice (some ⟨w2.heap.size, 0, none⟩) 2 2) 2 (strs [⟨#[115, 101, 108, 101, 99, 116]⟩, itB tb])) := by unfold Hid; rw [← hw3]; exact World.ownsRow_lit w2 #[.string ⟨#[115, 101, 108, 101, 99, 116]⟩, .string (itB tb)] 2 Lw2.out.size (by unfold maxLen; omega) rfl
  have l3 : V.heap.size ≤ w3.heap.size := Lw3.out.size
  clear hb hbb hb2 x0 x1 tk l1 HI
  have x0 : w3.cell? ⟨w.heap.size, 0, none⟩ = some (.int .i64 1) := (XV.out.belowS Lw3.out).cell 0
  have x11 : w3.cell? ⟨w.heap.size, 11, none⟩ = some (.slice wa wn wc) := (XV.out.belowS Lw3.out).cell 11
  have C : Hid (∀ W, Below V.heap.size V W → Calls Tryd.prog 45 #[.agg #[.slice wa wn wc]] W fun e w' => e = .returned (.bool true) ∧ Below W.heap.size W w') := fun W hW => by have h := c_lacks wa wn wc W; rw [hwn] at h; exact h
  go_wp2_with fail
  refine (C.out _ Lw3.out).mono ?_
  rintro e w4 ⟨rfl, hb⟩
  have Lw4 : Hid (Below V.heap.size V w4) := Lw3.out.trans (hb.mono Lw3.out.size)
  have Ow4 : Hid (w4.ownsRow V.heap.size 9 1 (.slice (some ⟨w2.heap.size, 0, none⟩) 2 2) 2 (strs [⟨#[115, 101, 108, 101, 99, 116]⟩, itB tb])) := own_below Ow3.out hb
  have lw4 : V.heap.size ≤ w4.heap.size := Lw4.out.size
  clear C hb x0 x11
  clear hw3
  have x0 : w4.cell? ⟨w.heap.size, 0, none⟩ = some (.int .i64 1) := (XV.out.belowS Lw4.out).cell 0
  have x1 : w4.cell? ⟨w.heap.size, 1, none⟩ = some (.int .i64 tb) := (XV.out.belowS Lw4.out).cell 1
  have x2 : w4.cell? ⟨w.heap.size, 2, none⟩ = some (.int .i64 i) := (XV.out.belowS Lw4.out).cell 2
  have x3 : w4.cell? ⟨w.heap.size, 3, none⟩ = some (.int .i64 u.1) := (XV.out.belowS Lw4.out).cell 3
  have x4 : w4.cell? ⟨w.heap.size, 4, none⟩ = some (.int .i64 u.2.1) := (XV.out.belowS Lw4.out).cell 4
  have x5 : w4.cell? ⟨w.heap.size, 5, none⟩ = some (.string u.2.2) := (XV.out.belowS Lw4.out).cell 5
  have x6 : w4.cell? ⟨w.heap.size, 6, none⟩ = some (.int .i64 v.1) := (XV.out.belowS Lw4.out).cell 6
  have x7 : w4.cell? ⟨w.heap.size, 7, none⟩ = some (.int .i64 v.2.1) := (XV.out.belowS Lw4.out).cell 7
  have x8 : w4.cell? ⟨w.heap.size, 8, none⟩ = some (.string v.2.2) := (XV.out.belowS Lw4.out).cell 8
  have x9 : w4.cell? ⟨w.heap.size, 9, none⟩ = some (.int .i64 c) := (XV.out.belowS Lw4.out).cell 9
  have x10 : w4.cell? ⟨w.heap.size, 10, none⟩ = some (.slice sa sn sc) := (XV.out.belowS Lw4.out).cell 10
  have x11 : w4.cell? ⟨w.heap.size, 11, none⟩ = some (.slice wa wn wc) := (XV.out.belowS Lw4.out).cell 11
  have x12 : w4.cell? ⟨w.heap.size, 12, none⟩ = some (.int .i64 0) := (XV.out.belowS Lw4.out).cell 12
  have x13 : w4.cell? ⟨w.heap.size, 13, none⟩ = some (.bool false) := (XV.out.belowS Lw4.out).cell 13
  have C : Hid (∀ W, Below V.heap.size V W → Calls Tryd.prog 46 #[.agg #[.int .i64 1, .int .i64 tb, .int .i64 i, .int .i64 u.1, .int .i64 u.2.1, .string u.2.2, .int .i64 v.1, .int .i64 v.2.1, .string v.2.2, .int .i64 c, .slice sa sn sc, .slice wa wn wc, .int .i64 0, .bool false]] W fun e w' => e = .returned (.bool true) ∧ Below W.heap.size W w') := fun W hW => by have h := c_noOrd 1 tb i u v c sa sn sc wa wn wc 0 false W; rw [show noB 0 false = true from rfl] at h; exact h
  go_wp2_with fail
  refine (C.out _ Lw4.out).mono ?_
  rintro e w5 ⟨rfl, hb⟩
  have Lw5 : Hid (Below V.heap.size V w5) := Lw4.out.trans (hb.mono Lw4.out.size)
  have Ow5 : Hid (w5.ownsRow V.heap.size 9 1 (.slice (some ⟨w2.heap.size, 0, none⟩) 2 2) 2 (strs [⟨#[115, 101, 108, 101, 99, 116]⟩, itB tb])) := own_below Ow4.out hb
  have lw5 : V.heap.size ≤ w5.heap.size := Lw5.out.size
  clear C hb x0 x1 x2 x3 x4 x5 x6 x7 x8 x9 x10 x11 x12 x13
  have zj : (joinS [⟨#[115, 101, 108, 101, 99, 116]⟩, itB tb]).size ≤ 100000000 := by
    have := join_size (⟨#[115, 101, 108, 101, 99, 116]⟩) [itB tb] 1200 (fun y hy => by
      simp only [List.mem_cons, List.not_mem_nil, or_false] at hy
      rcases hy with rfl
      · exact (Nat.le_trans zI.out (by omega))
      )
    have h0 : (⟨#[115, 101, 108, 101, 99, 116]⟩ : ByteArray).size ≤ 10 := by decide
    simp only [List.length_cons, List.length_nil] at this
    omega
  have x13 : w5.cell? ⟨w.heap.size, 13, none⟩ = some (.bool false) := (XV.out.belowS Lw5.out).cell 13
  have HJ : Hid (∀ (W : World) (a : Option Addr) (c : Nat), W.ownsRow V.heap.size 9 1 (.slice a 2 c) 2 (strs [⟨#[115, 101, 108, 101, 99, 116]⟩, itB tb]) → Calls Tryd.prog 47 #[.slice a 2 c, .string ⟨#[32]⟩] W fun e w' => e = .returned (.string (joinS [⟨#[115, 101, 108, 101, 99, 116]⟩, itB tb])) ∧ Below W.heap.size W w') := fun W a c h => c_joinO V.heap.size a c 2 [⟨#[115, 101, 108, 101, 99, 116]⟩, itB tb] W h (by omega) (by omega) zj
  clear zj
  go_wp2_with fail
  refine (HJ.out _ _ _ Ow5.out).mono ?_
  rintro e w6 ⟨rfl, hb⟩
  have BX : Hid (Below w.heap.size w w6) := BV.out.trans ((Lw5.out.trans (hb.mono Lw5.out.size)).mono BV.out.size)
  clear hb HJ
  go_wp2
  go_ret2
  exact ⟨rfl, BX.out⟩
set_option maxRecDepth 100000 in
set_option maxHeartbeats 8000000 in
theorem c_stI_S01 (tb i : Int) (u v : VV) (c : Int) (sa : Option Addr) (sn sc : Nat) (wa : Option Addr) (wn wc : Nat) (on : Nat) (LS LW : List EN) (w : World) (h1 : u.2.2.size ≤ maxLen) (h2 : v.2.2.size ≤ maxLen) (s2 : RdE w sa sn LS) (hs : sn ≤ 1048576) (s3 : ∀ x ∈ LS, x.t.size ≤ maxLen) (w2 : RdE w wa wn LW) (hw : wn ≤ 1048576) (w3 : ∀ x ∈ LW, x.t.size ≤ maxLen) (T : TabX w) (htb : 1 ≤ tb ∧ tb ≤ 3) (hst : stB 1 tb (rowZ i u v) (rowB i u v) c sn (okX LS sn) wn (okX LW wn) (on : Int) false = true) (hwn : (wn == 0) = true) (hon : on < 3) (hno : noB (on : Int) false = false) :
    Calls Tryd.prog 20 #[.agg #[.int .i64 1, .int .i64 tb, .int .i64 i, .int .i64 u.1, .int .i64 u.2.1, .string u.2.2, .int .i64 v.1, .int .i64 v.2.1, .string v.2.2, .int .i64 c, .slice sa sn sc, .slice wa wn wc, .int .i64 (on : Int), .bool false]] w fun e w' => e = .returned (.tuple #[.string (joinS [⟨#[115, 101, 108, 101, 99, 116]⟩, itB tb, ⟨#[111, 114, 100, 101, 114]⟩, clT (on : Int)]), .int .i64 0]) ∧ Below w.heap.size w w' := by
  obtain ⟨V, hV⟩ : ∃ W, w.alloc (.cells #[.int .i64 1, .int .i64 tb, .int .i64 i, .int .i64 u.1, .int .i64 u.2.1, .string u.2.2, .int .i64 v.1, .int .i64 v.2.1, .string v.2.2, .int .i64 c, .slice sa sn sc, .slice wa wn wc, .int .i64 (on : Int), .bool false] 52) = W := ⟨_, rfl⟩
  have BV : Hid (Below w.heap.size w V) := by unfold Hid; rw [← hV]; exact (Below.refl _ _).alloc (Nat.le_refl _) _
  have XV : Hid (Box V w.heap.size 52 #[.int .i64 1, .int .i64 tb, .int .i64 i, .int .i64 u.1, .int .i64 u.2.1, .string u.2.2, .int .i64 v.1, .int .i64 v.2.1, .string v.2.2, .int .i64 c, .slice sa sn sc, .slice wa wn wc, .int .i64 (on : Int), .bool false]) := by unfold Hid; rw [← hV]; exact Box.new _ _ _
  have TV : Hid (TabX V) := T.below BV.out
  have HS : Hid (RdE V sa sn LS) := s2.below BV.out
  have HW : Hid (RdE V wa wn LW) := w2.below BV.out
  have S3 : Hid (∀ x ∈ LS, x.t.size ≤ maxLen) := s3
  have W3 : Hid (∀ x ∈ LW, x.t.size ≤ maxLen) := w3
  have CK := c_implSt 1 tb i u v c sa sn sc wa wn wc (on : Int) false LS LW V h1 h2 (s2.below BV.out) hs s3 (w2.below BV.out) hw w3
  rw [hst] at CK
  obtain ⟨iI, giV, gz0, gz1, gz2⟩ := info_parts infoStr
  have hiI : Hid (Tryd.prog.info? 9 = some iI) := giV
  have hz0 : Hid (iI.zero = some (.string ⟨#[]⟩)) := gz0
  have hz1 : Hid (iI.size = 1) := gz1
  have hz2 : Hid (iI.bytes = 16) := gz2
  have zS : Hid ((xtS LS sn).size ≤ 1200) := xtS_size s2.1 s3
  have zW : Hid ((xtS LW wn).size ≤ 1200) := xtS_size w2.1 w3
  have HI : Hid (∀ W, TabX W → Calls Tryd.prog 43 #[.int .i64 tb] W fun e w' => e = .returned (.string (itB tb)) ∧ Below W.heap.size W w') := fun W t => c_itoaB tb (by omega) (by omega) W t.t.p
  have zI : Hid ((itB tb).size ≤ 21) := itB_size (by omega) (by omega)
  have LV : Hid (Below V.heap.size V V) := Below.refl _ _
  have x0 : V.cell? ⟨w.heap.size, 0, none⟩ = some (.int .i64 1) := (XV.out.belowS LV.out).cell 0
  have x1 : V.cell? ⟨w.heap.size, 1, none⟩ = some (.int .i64 tb) := (XV.out.belowS LV.out).cell 1
  have x2 : V.cell? ⟨w.heap.size, 2, none⟩ = some (.int .i64 i) := (XV.out.belowS LV.out).cell 2
  have x3 : V.cell? ⟨w.heap.size, 3, none⟩ = some (.int .i64 u.1) := (XV.out.belowS LV.out).cell 3
  have x4 : V.cell? ⟨w.heap.size, 4, none⟩ = some (.int .i64 u.2.1) := (XV.out.belowS LV.out).cell 4
  have x5 : V.cell? ⟨w.heap.size, 5, none⟩ = some (.string u.2.2) := (XV.out.belowS LV.out).cell 5
  have x6 : V.cell? ⟨w.heap.size, 6, none⟩ = some (.int .i64 v.1) := (XV.out.belowS LV.out).cell 6
  have x7 : V.cell? ⟨w.heap.size, 7, none⟩ = some (.int .i64 v.2.1) := (XV.out.belowS LV.out).cell 7
  have x8 : V.cell? ⟨w.heap.size, 8, none⟩ = some (.string v.2.2) := (XV.out.belowS LV.out).cell 8
  have x9 : V.cell? ⟨w.heap.size, 9, none⟩ = some (.int .i64 c) := (XV.out.belowS LV.out).cell 9
  have x10 : V.cell? ⟨w.heap.size, 10, none⟩ = some (.slice sa sn sc) := (XV.out.belowS LV.out).cell 10
  have x11 : V.cell? ⟨w.heap.size, 11, none⟩ = some (.slice wa wn wc) := (XV.out.belowS LV.out).cell 11
  have x12 : V.cell? ⟨w.heap.size, 12, none⟩ = some (.int .i64 (on : Int)) := (XV.out.belowS LV.out).cell 12
  have x13 : V.cell? ⟨w.heap.size, 13, none⟩ = some (.bool false) := (XV.out.belowS LV.out).cell 13
  clear giV gz0 gz1 gz2 hst T s2 s3 w2 w3
  go_enter Tryd.func20, Tryd.ntmps20
  go_wp2_with fail
  refine CK.mono ?_
  rintro e w1 ⟨rfl, hb⟩
  have Lw1 : Hid (Below V.heap.size V w1) := hb
  have l1 : V.heap.size ≤ w1.heap.size := hb.size
  clear hb CK hV LV x0 x1 x2 x3 x4 x5 x6 x7 x8 x9 x10 x11 x12 x13
  have x0 : w1.cell? ⟨w.heap.size, 0, none⟩ = some (.int .i64 1) := (XV.out.belowS Lw1.out).cell 0
  have x1 : w1.cell? ⟨w.heap.size, 1, none⟩ = some (.int .i64 tb) := (XV.out.belowS Lw1.out).cell 1
  have tk : w1.cell? ⟨0, 1, none⟩ = some (.string ⟨#[115, 101, 108, 101, 99, 116]⟩) := (TV.out.below Lw1.out).k.2.1
  go_wp2_with fail
  go_region_held3 (fun x => x.cell? ⟨w.heap.size, 0, none⟩ = some (.int .i64 1) ∧ x.cell? ⟨w.heap.size, 1, none⟩ = some (.int .i64 tb) ∧ x.cell? ⟨0, 1, none⟩ = some (.string ⟨#[115, 101, 108, 101, 99, 116]⟩))
    (first | exact ⟨far6 hb2 x0, far6 hb2 x1, far6 hb2 tk⟩ | go_keep)
    (first | (go_at_call 43; refine (HI.out _ ((TV.out.below Lw1.out).below (below_drewN (Below.refl _ _) _))).mono ?_; rintro e w2 ⟨rfl, hb2⟩))
  have hb : Below w1.heap.size w1 w2 := (Below.refl w1.heap.size w1).drew.trans hb2
  have Lw2 : Hid (Below V.heap.size V w2) := Lw1.out.trans (hb.mono l1)
  obtain ⟨w3, hw3⟩ : ∃ W, w2.alloc (.cells #[.string ⟨#[115, 101, 108, 101, 99, 116]⟩, .string (itB tb)] 9) = W := ⟨_, rfl⟩
  have hbb : Below w2.heap.size w2 w3 := by rw [← hw3]; exact (Below.refl _ _).alloc (Nat.le_refl _) _
  have Lw3 : Hid (Below V.heap.size V w3) := Lw2.out.trans (hbb.mono Lw2.out.size)
  have Ow3 : Hid (w3.ownsRow V.heap.size 9 1 (.slice (some ⟨w2.heap.size, 0, none⟩) 2 2) 2 (strs [⟨#[115, 101, 108, 101, 99, 116]⟩, itB tb])) := by unfold Hid; rw [← hw3]; exact World.ownsRow_lit w2 #[.string ⟨#[115, 101, 108, 101, 99, 116]⟩, .string (itB tb)] 2 Lw2.out.size (by unfold maxLen; omega) rfl
  have l3 : V.heap.size ≤ w3.heap.size := Lw3.out.size
  clear hb hbb hb2 x0 x1 tk l1 HI
  have x0 : w3.cell? ⟨w.heap.size, 0, none⟩ = some (.int .i64 1) := (XV.out.belowS Lw3.out).cell 0
  have x11 : w3.cell? ⟨w.heap.size, 11, none⟩ = some (.slice wa wn wc) := (XV.out.belowS Lw3.out).cell 11
  have C : Hid (∀ W, Below V.heap.size V W → Calls Tryd.prog 45 #[.agg #[.slice wa wn wc]] W fun e w' => e = .returned (.bool true) ∧ Below W.heap.size W w') := fun W hW => by have h := c_lacks wa wn wc W; rw [hwn] at h; exact h
  go_wp2_with fail
  refine (C.out _ Lw3.out).mono ?_
  rintro e w4 ⟨rfl, hb⟩
  have Lw4 : Hid (Below V.heap.size V w4) := Lw3.out.trans (hb.mono Lw3.out.size)
  have Ow4 : Hid (w4.ownsRow V.heap.size 9 1 (.slice (some ⟨w2.heap.size, 0, none⟩) 2 2) 2 (strs [⟨#[115, 101, 108, 101, 99, 116]⟩, itB tb])) := own_below Ow3.out hb
  have lw4 : V.heap.size ≤ w4.heap.size := Lw4.out.size
  clear C hb x0 x11
  clear hw3
  have x0 : w4.cell? ⟨w.heap.size, 0, none⟩ = some (.int .i64 1) := (XV.out.belowS Lw4.out).cell 0
  have x1 : w4.cell? ⟨w.heap.size, 1, none⟩ = some (.int .i64 tb) := (XV.out.belowS Lw4.out).cell 1
  have x2 : w4.cell? ⟨w.heap.size, 2, none⟩ = some (.int .i64 i) := (XV.out.belowS Lw4.out).cell 2
  have x3 : w4.cell? ⟨w.heap.size, 3, none⟩ = some (.int .i64 u.1) := (XV.out.belowS Lw4.out).cell 3
  have x4 : w4.cell? ⟨w.heap.size, 4, none⟩ = some (.int .i64 u.2.1) := (XV.out.belowS Lw4.out).cell 4
  have x5 : w4.cell? ⟨w.heap.size, 5, none⟩ = some (.string u.2.2) := (XV.out.belowS Lw4.out).cell 5
  have x6 : w4.cell? ⟨w.heap.size, 6, none⟩ = some (.int .i64 v.1) := (XV.out.belowS Lw4.out).cell 6
  have x7 : w4.cell? ⟨w.heap.size, 7, none⟩ = some (.int .i64 v.2.1) := (XV.out.belowS Lw4.out).cell 7
  have x8 : w4.cell? ⟨w.heap.size, 8, none⟩ = some (.string v.2.2) := (XV.out.belowS Lw4.out).cell 8
  have x9 : w4.cell? ⟨w.heap.size, 9, none⟩ = some (.int .i64 c) := (XV.out.belowS Lw4.out).cell 9
  have x10 : w4.cell? ⟨w.heap.size, 10, none⟩ = some (.slice sa sn sc) := (XV.out.belowS Lw4.out).cell 10
  have x11 : w4.cell? ⟨w.heap.size, 11, none⟩ = some (.slice wa wn wc) := (XV.out.belowS Lw4.out).cell 11
  have x12 : w4.cell? ⟨w.heap.size, 12, none⟩ = some (.int .i64 (on : Int)) := (XV.out.belowS Lw4.out).cell 12
  have x13 : w4.cell? ⟨w.heap.size, 13, none⟩ = some (.bool false) := (XV.out.belowS Lw4.out).cell 13
  have C : Hid (∀ W, Below V.heap.size V W → Calls Tryd.prog 46 #[.agg #[.int .i64 1, .int .i64 tb, .int .i64 i, .int .i64 u.1, .int .i64 u.2.1, .string u.2.2, .int .i64 v.1, .int .i64 v.2.1, .string v.2.2, .int .i64 c, .slice sa sn sc, .slice wa wn wc, .int .i64 (on : Int), .bool false]] W fun e w' => e = .returned (.bool false) ∧ Below W.heap.size W w') := fun W hW => by have h := c_noOrd 1 tb i u v c sa sn sc wa wn wc (on : Int) false W; rw [show noB (on : Int) false = false from hno] at h; exact h
  go_wp2_with fail
  refine (C.out _ Lw4.out).mono ?_
  rintro e w5 ⟨rfl, hb⟩
  have Lw5 : Hid (Below V.heap.size V w5) := Lw4.out.trans (hb.mono Lw4.out.size)
  have Ow5 : Hid (w5.ownsRow V.heap.size 9 1 (.slice (some ⟨w2.heap.size, 0, none⟩) 2 2) 2 (strs [⟨#[115, 101, 108, 101, 99, 116]⟩, itB tb])) := own_below Ow4.out hb
  have lw5 : V.heap.size ≤ w5.heap.size := Lw5.out.size
  clear C hb x0 x1 x2 x3 x4 x5 x6 x7 x8 x9 x10 x11 x12 x13
  have x12 : w5.cell? ⟨w.heap.size, 12, none⟩ = some (.int .i64 (on : Int)) := (XV.out.belowS Lw5.out).cell 12
  have tc := (TV.out.below Lw5.out).t.col on hon
  have g1 : (0 : Int) ≤ (on : Int) := by omega
  have g2 : (on : Int) < 3 := by omega
  have zj : (joinS [⟨#[115, 101, 108, 101, 99, 116]⟩, itB tb, ⟨#[111, 114, 100, 101, 114]⟩, clT (on : Int)]).size ≤ 100000000 := by
    have := join_size (⟨#[115, 101, 108, 101, 99, 116]⟩) [itB tb, ⟨#[111, 114, 100, 101, 114]⟩, clT (on : Int)] 1200 (fun y hy => by
      simp only [List.mem_cons, List.not_mem_nil, or_false] at hy
      rcases hy with rfl | rfl | rfl
      · exact (Nat.le_trans zI.out (by omega))
      · exact (show (_ : Nat) ≤ 1200 by decide)
      · exact (Nat.le_trans (clT_size _) (by omega))
      )
    have h0 : (⟨#[115, 101, 108, 101, 99, 116]⟩ : ByteArray).size ≤ 10 := by decide
    simp only [List.length_cons, List.length_nil] at this
    omega
  have HJ : Hid (∀ (W : World) (a : Option Addr) (c : Nat), W.ownsRow V.heap.size 9 1 (.slice a 4 c) 4 (strs [⟨#[115, 101, 108, 101, 99, 116]⟩, itB tb, ⟨#[111, 114, 100, 101, 114]⟩, clT (on : Int)]) → Calls Tryd.prog 47 #[.slice a 4 c, .string ⟨#[32]⟩] W fun e w' => e = .returned (.string (joinS [⟨#[115, 101, 108, 101, 99, 116]⟩, itB tb, ⟨#[111, 114, 100, 101, 114]⟩, clT (on : Int)])) ∧ Below W.heap.size W w') := fun W a c h => c_joinO V.heap.size a c 4 [⟨#[115, 101, 108, 101, 99, 116]⟩, itB tb, ⟨#[111, 114, 100, 101, 114]⟩, clT (on : Int)] W h (by omega) (by omega) zj
  clear zj
  go_wp2_with (at_builtin; refine app_any _ rfl (.tmp 62) (.tmp 67) 34 rfl V.heap.size 9 iI (.string ⟨#[]⟩) 1 16 Tryd.underlying34 hiI.out hz0.out hz1.out hz2.out rfl (by omega) (.slice (some ⟨w2.heap.size, 0, none⟩) 2 2) 2 (strs [⟨#[115, 101, 108, 101, 99, 116]⟩, itB tb]) rfl (own_below Ow5.out ((Below.refl _ _).alloc (Nat.le_refl _) _)) _ 2 2 (strs [⟨#[111, 114, 100, 101, 114]⟩, clT (on : Int)]) rfl (fun ex => by cases ex) rfl (new_atL _ [⟨#[111, 114, 100, 101, 114]⟩, clT (on : Int)] _ (by simp)) (strs_cells _) (by unfold maxLen; omega) (by omega) (by simp; omega) ?_; intro aw6 cw6 w6 how6 hgw6 hxw6; have Lw6 : Hid (Below V.heap.size V w6) := app_L1 Lw5.out Ow5.out hgw6; have Ow6 : Hid (w6.ownsRow V.heap.size 9 1 (.slice aw6 4 cw6) 4 (strs [⟨#[115, 101, 108, 101, 99, 116]⟩, itB tb, ⟨#[111, 114, 100, 101, 114]⟩, clT (on : Int)])) := how6; have lw6 : V.heap.size ≤ w6.heap.size := Lw6.out.size; clear how6 hgw6 hxw6; have x13 : w6.cell? ⟨w.heap.size, 13, none⟩ = some (.bool false) := (XV.out.belowS Lw6.out).cell 13)
  refine (HJ.out _ _ _ Ow6.out).mono ?_
  rintro e w7 ⟨rfl, hb⟩
  have BX : Hid (Below w.heap.size w w7) := BV.out.trans ((Lw6.out.trans (hb.mono Lw6.out.size)).mono BV.out.size)
  clear hb HJ
  go_wp2
  go_ret2
  exact ⟨rfl, BX.out⟩
set_option maxRecDepth 100000 in
set_option maxHeartbeats 8000000 in
theorem c_stI_S02 (tb i : Int) (u v : VV) (c : Int) (sa : Option Addr) (sn sc : Nat) (wa : Option Addr) (wn wc : Nat) (on : Nat) (LS LW : List EN) (w : World) (h1 : u.2.2.size ≤ maxLen) (h2 : v.2.2.size ≤ maxLen) (s2 : RdE w sa sn LS) (hs : sn ≤ 1048576) (s3 : ∀ x ∈ LS, x.t.size ≤ maxLen) (w2 : RdE w wa wn LW) (hw : wn ≤ 1048576) (w3 : ∀ x ∈ LW, x.t.size ≤ maxLen) (T : TabX w) (htb : 1 ≤ tb ∧ tb ≤ 3) (hst : stB 1 tb (rowZ i u v) (rowB i u v) c sn (okX LS sn) wn (okX LW wn) (on : Int) true = true) (hwn : (wn == 0) = true) (hon : on < 3) (hno : noB (on : Int) true = false) :
    Calls Tryd.prog 20 #[.agg #[.int .i64 1, .int .i64 tb, .int .i64 i, .int .i64 u.1, .int .i64 u.2.1, .string u.2.2, .int .i64 v.1, .int .i64 v.2.1, .string v.2.2, .int .i64 c, .slice sa sn sc, .slice wa wn wc, .int .i64 (on : Int), .bool true]] w fun e w' => e = .returned (.tuple #[.string (joinS [⟨#[115, 101, 108, 101, 99, 116]⟩, itB tb, ⟨#[111, 114, 100, 101, 114]⟩, clT (on : Int), ⟨#[100, 101, 115, 99]⟩]), .int .i64 0]) ∧ Below w.heap.size w w' := by
  obtain ⟨V, hV⟩ : ∃ W, w.alloc (.cells #[.int .i64 1, .int .i64 tb, .int .i64 i, .int .i64 u.1, .int .i64 u.2.1, .string u.2.2, .int .i64 v.1, .int .i64 v.2.1, .string v.2.2, .int .i64 c, .slice sa sn sc, .slice wa wn wc, .int .i64 (on : Int), .bool true] 52) = W := ⟨_, rfl⟩
  have BV : Hid (Below w.heap.size w V) := by unfold Hid; rw [← hV]; exact (Below.refl _ _).alloc (Nat.le_refl _) _
  have XV : Hid (Box V w.heap.size 52 #[.int .i64 1, .int .i64 tb, .int .i64 i, .int .i64 u.1, .int .i64 u.2.1, .string u.2.2, .int .i64 v.1, .int .i64 v.2.1, .string v.2.2, .int .i64 c, .slice sa sn sc, .slice wa wn wc, .int .i64 (on : Int), .bool true]) := by unfold Hid; rw [← hV]; exact Box.new _ _ _
  have TV : Hid (TabX V) := T.below BV.out
  have HS : Hid (RdE V sa sn LS) := s2.below BV.out
  have HW : Hid (RdE V wa wn LW) := w2.below BV.out
  have S3 : Hid (∀ x ∈ LS, x.t.size ≤ maxLen) := s3
  have W3 : Hid (∀ x ∈ LW, x.t.size ≤ maxLen) := w3
  have CK := c_implSt 1 tb i u v c sa sn sc wa wn wc (on : Int) true LS LW V h1 h2 (s2.below BV.out) hs s3 (w2.below BV.out) hw w3
  rw [hst] at CK
  obtain ⟨iI, giV, gz0, gz1, gz2⟩ := info_parts infoStr
  have hiI : Hid (Tryd.prog.info? 9 = some iI) := giV
  have hz0 : Hid (iI.zero = some (.string ⟨#[]⟩)) := gz0
  have hz1 : Hid (iI.size = 1) := gz1
  have hz2 : Hid (iI.bytes = 16) := gz2
  have zS : Hid ((xtS LS sn).size ≤ 1200) := xtS_size s2.1 s3
  have zW : Hid ((xtS LW wn).size ≤ 1200) := xtS_size w2.1 w3
  have HI : Hid (∀ W, TabX W → Calls Tryd.prog 43 #[.int .i64 tb] W fun e w' => e = .returned (.string (itB tb)) ∧ Below W.heap.size W w') := fun W t => c_itoaB tb (by omega) (by omega) W t.t.p
  have zI : Hid ((itB tb).size ≤ 21) := itB_size (by omega) (by omega)
  have LV : Hid (Below V.heap.size V V) := Below.refl _ _
  have x0 : V.cell? ⟨w.heap.size, 0, none⟩ = some (.int .i64 1) := (XV.out.belowS LV.out).cell 0
  have x1 : V.cell? ⟨w.heap.size, 1, none⟩ = some (.int .i64 tb) := (XV.out.belowS LV.out).cell 1
  have x2 : V.cell? ⟨w.heap.size, 2, none⟩ = some (.int .i64 i) := (XV.out.belowS LV.out).cell 2
  have x3 : V.cell? ⟨w.heap.size, 3, none⟩ = some (.int .i64 u.1) := (XV.out.belowS LV.out).cell 3
  have x4 : V.cell? ⟨w.heap.size, 4, none⟩ = some (.int .i64 u.2.1) := (XV.out.belowS LV.out).cell 4
  have x5 : V.cell? ⟨w.heap.size, 5, none⟩ = some (.string u.2.2) := (XV.out.belowS LV.out).cell 5
  have x6 : V.cell? ⟨w.heap.size, 6, none⟩ = some (.int .i64 v.1) := (XV.out.belowS LV.out).cell 6
  have x7 : V.cell? ⟨w.heap.size, 7, none⟩ = some (.int .i64 v.2.1) := (XV.out.belowS LV.out).cell 7
  have x8 : V.cell? ⟨w.heap.size, 8, none⟩ = some (.string v.2.2) := (XV.out.belowS LV.out).cell 8
  have x9 : V.cell? ⟨w.heap.size, 9, none⟩ = some (.int .i64 c) := (XV.out.belowS LV.out).cell 9
  have x10 : V.cell? ⟨w.heap.size, 10, none⟩ = some (.slice sa sn sc) := (XV.out.belowS LV.out).cell 10
  have x11 : V.cell? ⟨w.heap.size, 11, none⟩ = some (.slice wa wn wc) := (XV.out.belowS LV.out).cell 11
  have x12 : V.cell? ⟨w.heap.size, 12, none⟩ = some (.int .i64 (on : Int)) := (XV.out.belowS LV.out).cell 12
  have x13 : V.cell? ⟨w.heap.size, 13, none⟩ = some (.bool true) := (XV.out.belowS LV.out).cell 13
  clear giV gz0 gz1 gz2 hst T s2 s3 w2 w3
  go_enter Tryd.func20, Tryd.ntmps20
  go_wp2_with fail
  refine CK.mono ?_
  rintro e w1 ⟨rfl, hb⟩
  have Lw1 : Hid (Below V.heap.size V w1) := hb
  have l1 : V.heap.size ≤ w1.heap.size := hb.size
  clear hb CK hV LV x0 x1 x2 x3 x4 x5 x6 x7 x8 x9 x10 x11 x12 x13
  have x0 : w1.cell? ⟨w.heap.size, 0, none⟩ = some (.int .i64 1) := (XV.out.belowS Lw1.out).cell 0
  have x1 : w1.cell? ⟨w.heap.size, 1, none⟩ = some (.int .i64 tb) := (XV.out.belowS Lw1.out).cell 1
  have tk : w1.cell? ⟨0, 1, none⟩ = some (.string ⟨#[115, 101, 108, 101, 99, 116]⟩) := (TV.out.below Lw1.out).k.2.1
  go_wp2_with fail
  go_region_held3 (fun x => x.cell? ⟨w.heap.size, 0, none⟩ = some (.int .i64 1) ∧ x.cell? ⟨w.heap.size, 1, none⟩ = some (.int .i64 tb) ∧ x.cell? ⟨0, 1, none⟩ = some (.string ⟨#[115, 101, 108, 101, 99, 116]⟩))
    (first | exact ⟨far6 hb2 x0, far6 hb2 x1, far6 hb2 tk⟩ | go_keep)
    (first | (go_at_call 43; refine (HI.out _ ((TV.out.below Lw1.out).below (below_drewN (Below.refl _ _) _))).mono ?_; rintro e w2 ⟨rfl, hb2⟩))
  have hb : Below w1.heap.size w1 w2 := (Below.refl w1.heap.size w1).drew.trans hb2
  have Lw2 : Hid (Below V.heap.size V w2) := Lw1.out.trans (hb.mono l1)
  obtain ⟨w3, hw3⟩ : ∃ W, w2.alloc (.cells #[.string ⟨#[115, 101, 108, 101, 99, 116]⟩, .string (itB tb)] 9) = W := ⟨_, rfl⟩
  have hbb : Below w2.heap.size w2 w3 := by rw [← hw3]; exact (Below.refl _ _).alloc (Nat.le_refl _) _
  have Lw3 : Hid (Below V.heap.size V w3) := Lw2.out.trans (hbb.mono Lw2.out.size)
  have Ow3 : Hid (w3.ownsRow V.heap.size 9 1 (.slice (some ⟨w2.heap.size, 0, none⟩) 2 2) 2 (strs [⟨#[115, 101, 108, 101, 99, 116]⟩, itB tb])) := by unfold Hid; rw [← hw3]; exact World.ownsRow_lit w2 #[.string ⟨#[115, 101, 108, 101, 99, 116]⟩, .string (itB tb)] 2 Lw2.out.size (by unfold maxLen; omega) rfl
  have l3 : V.heap.size ≤ w3.heap.size := Lw3.out.size
  clear hb hbb hb2 x0 x1 tk l1 HI
  have x0 : w3.cell? ⟨w.heap.size, 0, none⟩ = some (.int .i64 1) := (XV.out.belowS Lw3.out).cell 0
  have x11 : w3.cell? ⟨w.heap.size, 11, none⟩ = some (.slice wa wn wc) := (XV.out.belowS Lw3.out).cell 11
  have C : Hid (∀ W, Below V.heap.size V W → Calls Tryd.prog 45 #[.agg #[.slice wa wn wc]] W fun e w' => e = .returned (.bool true) ∧ Below W.heap.size W w') := fun W hW => by have h := c_lacks wa wn wc W; rw [hwn] at h; exact h
  go_wp2_with fail
  refine (C.out _ Lw3.out).mono ?_
  rintro e w4 ⟨rfl, hb⟩
  have Lw4 : Hid (Below V.heap.size V w4) := Lw3.out.trans (hb.mono Lw3.out.size)
  have Ow4 : Hid (w4.ownsRow V.heap.size 9 1 (.slice (some ⟨w2.heap.size, 0, none⟩) 2 2) 2 (strs [⟨#[115, 101, 108, 101, 99, 116]⟩, itB tb])) := own_below Ow3.out hb
  have lw4 : V.heap.size ≤ w4.heap.size := Lw4.out.size
  clear C hb x0 x11
  clear hw3
  have x0 : w4.cell? ⟨w.heap.size, 0, none⟩ = some (.int .i64 1) := (XV.out.belowS Lw4.out).cell 0
  have x1 : w4.cell? ⟨w.heap.size, 1, none⟩ = some (.int .i64 tb) := (XV.out.belowS Lw4.out).cell 1
  have x2 : w4.cell? ⟨w.heap.size, 2, none⟩ = some (.int .i64 i) := (XV.out.belowS Lw4.out).cell 2
  have x3 : w4.cell? ⟨w.heap.size, 3, none⟩ = some (.int .i64 u.1) := (XV.out.belowS Lw4.out).cell 3
  have x4 : w4.cell? ⟨w.heap.size, 4, none⟩ = some (.int .i64 u.2.1) := (XV.out.belowS Lw4.out).cell 4
  have x5 : w4.cell? ⟨w.heap.size, 5, none⟩ = some (.string u.2.2) := (XV.out.belowS Lw4.out).cell 5
  have x6 : w4.cell? ⟨w.heap.size, 6, none⟩ = some (.int .i64 v.1) := (XV.out.belowS Lw4.out).cell 6
  have x7 : w4.cell? ⟨w.heap.size, 7, none⟩ = some (.int .i64 v.2.1) := (XV.out.belowS Lw4.out).cell 7
  have x8 : w4.cell? ⟨w.heap.size, 8, none⟩ = some (.string v.2.2) := (XV.out.belowS Lw4.out).cell 8
  have x9 : w4.cell? ⟨w.heap.size, 9, none⟩ = some (.int .i64 c) := (XV.out.belowS Lw4.out).cell 9
  have x10 : w4.cell? ⟨w.heap.size, 10, none⟩ = some (.slice sa sn sc) := (XV.out.belowS Lw4.out).cell 10
  have x11 : w4.cell? ⟨w.heap.size, 11, none⟩ = some (.slice wa wn wc) := (XV.out.belowS Lw4.out).cell 11
  have x12 : w4.cell? ⟨w.heap.size, 12, none⟩ = some (.int .i64 (on : Int)) := (XV.out.belowS Lw4.out).cell 12
  have x13 : w4.cell? ⟨w.heap.size, 13, none⟩ = some (.bool true) := (XV.out.belowS Lw4.out).cell 13
  have C : Hid (∀ W, Below V.heap.size V W → Calls Tryd.prog 46 #[.agg #[.int .i64 1, .int .i64 tb, .int .i64 i, .int .i64 u.1, .int .i64 u.2.1, .string u.2.2, .int .i64 v.1, .int .i64 v.2.1, .string v.2.2, .int .i64 c, .slice sa sn sc, .slice wa wn wc, .int .i64 (on : Int), .bool true]] W fun e w' => e = .returned (.bool false) ∧ Below W.heap.size W w') := fun W hW => by have h := c_noOrd 1 tb i u v c sa sn sc wa wn wc (on : Int) true W; rw [show noB (on : Int) true = false from hno] at h; exact h
  go_wp2_with fail
  refine (C.out _ Lw4.out).mono ?_
  rintro e w5 ⟨rfl, hb⟩
  have Lw5 : Hid (Below V.heap.size V w5) := Lw4.out.trans (hb.mono Lw4.out.size)
  have Ow5 : Hid (w5.ownsRow V.heap.size 9 1 (.slice (some ⟨w2.heap.size, 0, none⟩) 2 2) 2 (strs [⟨#[115, 101, 108, 101, 99, 116]⟩, itB tb])) := own_below Ow4.out hb
  have lw5 : V.heap.size ≤ w5.heap.size := Lw5.out.size
  clear C hb x0 x1 x2 x3 x4 x5 x6 x7 x8 x9 x10 x11 x12 x13
  have x12 : w5.cell? ⟨w.heap.size, 12, none⟩ = some (.int .i64 (on : Int)) := (XV.out.belowS Lw5.out).cell 12
  have tc := (TV.out.below Lw5.out).t.col on hon
  have g1 : (0 : Int) ≤ (on : Int) := by omega
  have g2 : (on : Int) < 3 := by omega
  -- desc follows
  have zj : (joinS [⟨#[115, 101, 108, 101, 99, 116]⟩, itB tb, ⟨#[111, 114, 100, 101, 114]⟩, clT (on : Int), ⟨#[100, 101, 115, 99]⟩]).size ≤ 100000000 := by
    have := join_size (⟨#[115, 101, 108, 101, 99, 116]⟩) [itB tb, ⟨#[111, 114, 100, 101, 114]⟩, clT (on : Int), ⟨#[100, 101, 115, 99]⟩] 1200 (fun y hy => by
      simp only [List.mem_cons, List.not_mem_nil, or_false] at hy
      rcases hy with rfl | rfl | rfl | rfl
      · exact (Nat.le_trans zI.out (by omega))
      · exact (show (_ : Nat) ≤ 1200 by decide)
      · exact (Nat.le_trans (clT_size _) (by omega))
      · exact (show (_ : Nat) ≤ 1200 by decide)
      )
    have h0 : (⟨#[115, 101, 108, 101, 99, 116]⟩ : ByteArray).size ≤ 10 := by decide
    simp only [List.length_cons, List.length_nil] at this
    omega
  have HJ : Hid (∀ (W : World) (a : Option Addr) (c : Nat), W.ownsRow V.heap.size 9 1 (.slice a 5 c) 5 (strs [⟨#[115, 101, 108, 101, 99, 116]⟩, itB tb, ⟨#[111, 114, 100, 101, 114]⟩, clT (on : Int), ⟨#[100, 101, 115, 99]⟩]) → Calls Tryd.prog 47 #[.slice a 5 c, .string ⟨#[32]⟩] W fun e w' => e = .returned (.string (joinS [⟨#[115, 101, 108, 101, 99, 116]⟩, itB tb, ⟨#[111, 114, 100, 101, 114]⟩, clT (on : Int), ⟨#[100, 101, 115, 99]⟩])) ∧ Below W.heap.size W w') := fun W a c h => c_joinO V.heap.size a c 5 [⟨#[115, 101, 108, 101, 99, 116]⟩, itB tb, ⟨#[111, 114, 100, 101, 114]⟩, clT (on : Int), ⟨#[100, 101, 115, 99]⟩] W h (by omega) (by omega) zj
  clear zj
  go_wp2_with (first | (at_builtin; refine app_any _ rfl (.tmp 62) (.tmp 67) 34 rfl V.heap.size 9 iI (.string ⟨#[]⟩) 1 16 Tryd.underlying34 hiI.out hz0.out hz1.out hz2.out rfl (by omega) (.slice (some ⟨w2.heap.size, 0, none⟩) 2 2) 2 (strs [⟨#[115, 101, 108, 101, 99, 116]⟩, itB tb]) rfl (own_below Ow5.out ((Below.refl _ _).alloc (Nat.le_refl _) _)) _ 2 2 (strs [⟨#[111, 114, 100, 101, 114]⟩, clT (on : Int)]) rfl (fun ex => by cases ex) rfl (new_atL _ [⟨#[111, 114, 100, 101, 114]⟩, clT (on : Int)] _ (by simp)) (strs_cells _) (by unfold maxLen; omega) (by omega) (by simp; omega) ?_; intro aw6 cw6 w6 how6 hgw6 hxw6; have Lw6 : Hid (Below V.heap.size V w6) := app_L1 Lw5.out Ow5.out hgw6; have Ow6 : Hid (w6.ownsRow V.heap.size 9 1 (.slice aw6 4 cw6) 4 (strs [⟨#[115, 101, 108, 101, 99, 116]⟩, itB tb, ⟨#[111, 114, 100, 101, 114]⟩, clT (on : Int)])) := how6; have lw6 : V.heap.size ≤ w6.heap.size := Lw6.out.size; clear how6 hgw6 hxw6; have x13 : w6.cell? ⟨w.heap.size, 13, none⟩ = some (.bool true) := (XV.out.belowS Lw6.out).cell 13) | (at_builtin; refine app_any _ rfl (.tmp 71) (.tmp 72) 34 rfl V.heap.size 9 iI (.string ⟨#[]⟩) 1 16 Tryd.underlying34 hiI.out hz0.out hz1.out hz2.out rfl (by omega) (.slice aw6 4 cw6) 4 (strs [⟨#[115, 101, 108, 101, 99, 116]⟩, itB tb, ⟨#[111, 114, 100, 101, 114]⟩, clT (on : Int)]) rfl (own_below Ow6.out ((Below.refl _ _).alloc (Nat.le_refl _) _)) _ 1 1 (strs [⟨#[100, 101, 115, 99]⟩]) rfl (fun ex => by cases ex) rfl (new_atL _ [⟨#[100, 101, 115, 99]⟩] _ (by simp)) (strs_cells _) (by unfold maxLen; omega) (by omega) (by simp; omega) ?_; intro aw7 cw7 w7 how7 hgw7 hxw7; have Lw7 : Hid (Below V.heap.size V w7) := app_L1 Lw6.out Ow6.out hgw7; have Ow7 : Hid (w7.ownsRow V.heap.size 9 1 (.slice aw7 5 cw7) 5 (strs [⟨#[115, 101, 108, 101, 99, 116]⟩, itB tb, ⟨#[111, 114, 100, 101, 114]⟩, clT (on : Int), ⟨#[100, 101, 115, 99]⟩])) := how7; have lw7 : V.heap.size ≤ w7.heap.size := Lw7.out.size; clear how7 hgw7 hxw7))
  refine (HJ.out _ _ _ Ow7.out).mono ?_
  rintro e w8 ⟨rfl, hb⟩
  have BX : Hid (Below w.heap.size w w8) := BV.out.trans ((Lw7.out.trans (hb.mono Lw7.out.size)).mono BV.out.size)
  clear hb HJ
  go_wp2
  go_ret2
  exact ⟨rfl, BX.out⟩
set_option maxRecDepth 100000 in
set_option maxHeartbeats 8000000 in
theorem c_stI_S10 (tb i : Int) (u v : VV) (c : Int) (sa : Option Addr) (sn sc : Nat) (wa : Option Addr) (wn wc : Nat) (LS LW : List EN) (w : World) (h1 : u.2.2.size ≤ maxLen) (h2 : v.2.2.size ≤ maxLen) (s2 : RdE w sa sn LS) (hs : sn ≤ 1048576) (s3 : ∀ x ∈ LS, x.t.size ≤ maxLen) (w2 : RdE w wa wn LW) (hw : wn ≤ 1048576) (w3 : ∀ x ∈ LW, x.t.size ≤ maxLen) (T : TabX w) (htb : 1 ≤ tb ∧ tb ≤ 3) (hst : stB 1 tb (rowZ i u v) (rowB i u v) c sn (okX LS sn) wn (okX LW wn) 0 false = true) (hwn : (wn == 0) = false) :
    Calls Tryd.prog 20 #[.agg #[.int .i64 1, .int .i64 tb, .int .i64 i, .int .i64 u.1, .int .i64 u.2.1, .string u.2.2, .int .i64 v.1, .int .i64 v.2.1, .string v.2.2, .int .i64 c, .slice sa sn sc, .slice wa wn wc, .int .i64 0, .bool false]] w fun e w' => e = .returned (.tuple #[.string (joinS [⟨#[115, 101, 108, 101, 99, 116]⟩, itB tb, ⟨#[119, 104, 101, 114, 101]⟩, xtS LW wn]), .int .i64 0]) ∧ Below w.heap.size w w' := by
  obtain ⟨V, hV⟩ : ∃ W, w.alloc (.cells #[.int .i64 1, .int .i64 tb, .int .i64 i, .int .i64 u.1, .int .i64 u.2.1, .string u.2.2, .int .i64 v.1, .int .i64 v.2.1, .string v.2.2, .int .i64 c, .slice sa sn sc, .slice wa wn wc, .int .i64 0, .bool false] 52) = W := ⟨_, rfl⟩
  have BV : Hid (Below w.heap.size w V) := by unfold Hid; rw [← hV]; exact (Below.refl _ _).alloc (Nat.le_refl _) _
  have XV : Hid (Box V w.heap.size 52 #[.int .i64 1, .int .i64 tb, .int .i64 i, .int .i64 u.1, .int .i64 u.2.1, .string u.2.2, .int .i64 v.1, .int .i64 v.2.1, .string v.2.2, .int .i64 c, .slice sa sn sc, .slice wa wn wc, .int .i64 0, .bool false]) := by unfold Hid; rw [← hV]; exact Box.new _ _ _
  have TV : Hid (TabX V) := T.below BV.out
  have HS : Hid (RdE V sa sn LS) := s2.below BV.out
  have HW : Hid (RdE V wa wn LW) := w2.below BV.out
  have S3 : Hid (∀ x ∈ LS, x.t.size ≤ maxLen) := s3
  have W3 : Hid (∀ x ∈ LW, x.t.size ≤ maxLen) := w3
  have CK := c_implSt 1 tb i u v c sa sn sc wa wn wc 0 false LS LW V h1 h2 (s2.below BV.out) hs s3 (w2.below BV.out) hw w3
  rw [hst] at CK
  obtain ⟨iI, giV, gz0, gz1, gz2⟩ := info_parts infoStr
  have hiI : Hid (Tryd.prog.info? 9 = some iI) := giV
  have hz0 : Hid (iI.zero = some (.string ⟨#[]⟩)) := gz0
  have hz1 : Hid (iI.size = 1) := gz1
  have hz2 : Hid (iI.bytes = 16) := gz2
  have zS : Hid ((xtS LS sn).size ≤ 1200) := xtS_size s2.1 s3
  have zW : Hid ((xtS LW wn).size ≤ 1200) := xtS_size w2.1 w3
  have HI : Hid (∀ W, TabX W → Calls Tryd.prog 43 #[.int .i64 tb] W fun e w' => e = .returned (.string (itB tb)) ∧ Below W.heap.size W w') := fun W t => c_itoaB tb (by omega) (by omega) W t.t.p
  have zI : Hid ((itB tb).size ≤ 21) := itB_size (by omega) (by omega)
  have LV : Hid (Below V.heap.size V V) := Below.refl _ _
  have x0 : V.cell? ⟨w.heap.size, 0, none⟩ = some (.int .i64 1) := (XV.out.belowS LV.out).cell 0
  have x1 : V.cell? ⟨w.heap.size, 1, none⟩ = some (.int .i64 tb) := (XV.out.belowS LV.out).cell 1
  have x2 : V.cell? ⟨w.heap.size, 2, none⟩ = some (.int .i64 i) := (XV.out.belowS LV.out).cell 2
  have x3 : V.cell? ⟨w.heap.size, 3, none⟩ = some (.int .i64 u.1) := (XV.out.belowS LV.out).cell 3
  have x4 : V.cell? ⟨w.heap.size, 4, none⟩ = some (.int .i64 u.2.1) := (XV.out.belowS LV.out).cell 4
  have x5 : V.cell? ⟨w.heap.size, 5, none⟩ = some (.string u.2.2) := (XV.out.belowS LV.out).cell 5
  have x6 : V.cell? ⟨w.heap.size, 6, none⟩ = some (.int .i64 v.1) := (XV.out.belowS LV.out).cell 6
  have x7 : V.cell? ⟨w.heap.size, 7, none⟩ = some (.int .i64 v.2.1) := (XV.out.belowS LV.out).cell 7
  have x8 : V.cell? ⟨w.heap.size, 8, none⟩ = some (.string v.2.2) := (XV.out.belowS LV.out).cell 8
  have x9 : V.cell? ⟨w.heap.size, 9, none⟩ = some (.int .i64 c) := (XV.out.belowS LV.out).cell 9
  have x10 : V.cell? ⟨w.heap.size, 10, none⟩ = some (.slice sa sn sc) := (XV.out.belowS LV.out).cell 10
  have x11 : V.cell? ⟨w.heap.size, 11, none⟩ = some (.slice wa wn wc) := (XV.out.belowS LV.out).cell 11
  have x12 : V.cell? ⟨w.heap.size, 12, none⟩ = some (.int .i64 0) := (XV.out.belowS LV.out).cell 12
  have x13 : V.cell? ⟨w.heap.size, 13, none⟩ = some (.bool false) := (XV.out.belowS LV.out).cell 13
  clear giV gz0 gz1 gz2 hst T s2 s3 w2 w3
  go_enter Tryd.func20, Tryd.ntmps20
  go_wp2_with fail
  refine CK.mono ?_
  rintro e w1 ⟨rfl, hb⟩
  have Lw1 : Hid (Below V.heap.size V w1) := hb
  have l1 : V.heap.size ≤ w1.heap.size := hb.size
  clear hb CK hV LV x0 x1 x2 x3 x4 x5 x6 x7 x8 x9 x10 x11 x12 x13
  have x0 : w1.cell? ⟨w.heap.size, 0, none⟩ = some (.int .i64 1) := (XV.out.belowS Lw1.out).cell 0
  have x1 : w1.cell? ⟨w.heap.size, 1, none⟩ = some (.int .i64 tb) := (XV.out.belowS Lw1.out).cell 1
  have tk : w1.cell? ⟨0, 1, none⟩ = some (.string ⟨#[115, 101, 108, 101, 99, 116]⟩) := (TV.out.below Lw1.out).k.2.1
  go_wp2_with fail
  go_region_held3 (fun x => x.cell? ⟨w.heap.size, 0, none⟩ = some (.int .i64 1) ∧ x.cell? ⟨w.heap.size, 1, none⟩ = some (.int .i64 tb) ∧ x.cell? ⟨0, 1, none⟩ = some (.string ⟨#[115, 101, 108, 101, 99, 116]⟩))
    (first | exact ⟨far6 hb2 x0, far6 hb2 x1, far6 hb2 tk⟩ | go_keep)
    (first | (go_at_call 43; refine (HI.out _ ((TV.out.below Lw1.out).below (below_drewN (Below.refl _ _) _))).mono ?_; rintro e w2 ⟨rfl, hb2⟩))
  have hb : Below w1.heap.size w1 w2 := (Below.refl w1.heap.size w1).drew.trans hb2
  have Lw2 : Hid (Below V.heap.size V w2) := Lw1.out.trans (hb.mono l1)
  obtain ⟨w3, hw3⟩ : ∃ W, w2.alloc (.cells #[.string ⟨#[115, 101, 108, 101, 99, 116]⟩, .string (itB tb)] 9) = W := ⟨_, rfl⟩
  have hbb : Below w2.heap.size w2 w3 := by rw [← hw3]; exact (Below.refl _ _).alloc (Nat.le_refl _) _
  have Lw3 : Hid (Below V.heap.size V w3) := Lw2.out.trans (hbb.mono Lw2.out.size)
  have Ow3 : Hid (w3.ownsRow V.heap.size 9 1 (.slice (some ⟨w2.heap.size, 0, none⟩) 2 2) 2 (strs [⟨#[115, 101, 108, 101, 99, 116]⟩, itB tb])) := by unfold Hid; rw [← hw3]; exact World.ownsRow_lit w2 #[.string ⟨#[115, 101, 108, 101, 99, 116]⟩, .string (itB tb)] 2 Lw2.out.size (by unfold maxLen; omega) rfl
  have l3 : V.heap.size ≤ w3.heap.size := Lw3.out.size
  clear hb hbb hb2 x0 x1 tk l1 HI
  have x0 : w3.cell? ⟨w.heap.size, 0, none⟩ = some (.int .i64 1) := (XV.out.belowS Lw3.out).cell 0
  have x11 : w3.cell? ⟨w.heap.size, 11, none⟩ = some (.slice wa wn wc) := (XV.out.belowS Lw3.out).cell 11
  have C : Hid (∀ W, Below V.heap.size V W → Calls Tryd.prog 45 #[.agg #[.slice wa wn wc]] W fun e w' => e = .returned (.bool false) ∧ Below W.heap.size W w') := fun W hW => by have h := c_lacks wa wn wc W; rw [hwn] at h; exact h
  go_wp2_with fail
  refine (C.out _ Lw3.out).mono ?_
  rintro e w4 ⟨rfl, hb⟩
  have Lw4 : Hid (Below V.heap.size V w4) := Lw3.out.trans (hb.mono Lw3.out.size)
  have Ow4 : Hid (w4.ownsRow V.heap.size 9 1 (.slice (some ⟨w2.heap.size, 0, none⟩) 2 2) 2 (strs [⟨#[115, 101, 108, 101, 99, 116]⟩, itB tb])) := own_below Ow3.out hb
  have lw4 : V.heap.size ≤ w4.heap.size := Lw4.out.size
  clear C hb x0 x11
  clear hw3
  have x11 : w4.cell? ⟨w.heap.size, 11, none⟩ = some (.slice wa wn wc) := (XV.out.belowS Lw4.out).cell 11
  have C : Hid (∀ W, Below V.heap.size V W → Calls Tryd.prog 10 #[.agg #[.slice wa wn wc]] W fun e w' => e = .returned (.tuple #[.string (xtS LW wn), .int .i64 (xtE LW wn)]) ∧ Below W.heap.size W w') := fun W hW => c_implT LW wa wn wc W (HW.out.below hW) hw W3.out (TV.out.below hW).t
  go_wp2_with fail
  refine (C.out _ Lw4.out).mono ?_
  rintro e w5 ⟨rfl, hb⟩
  have Lw5 : Hid (Below V.heap.size V w5) := Lw4.out.trans (hb.mono Lw4.out.size)
  have Ow5 : Hid (w5.ownsRow V.heap.size 9 1 (.slice (some ⟨w2.heap.size, 0, none⟩) 2 2) 2 (strs [⟨#[115, 101, 108, 101, 99, 116]⟩, itB tb])) := own_below Ow4.out hb
  have lw5 : V.heap.size ≤ w5.heap.size := Lw5.out.size
  clear C hb x11
  have C : Hid (∀ W, Below V.heap.size V W → Calls Tryd.prog 46 #[.agg #[.int .i64 1, .int .i64 tb, .int .i64 i, .int .i64 u.1, .int .i64 u.2.1, .string u.2.2, .int .i64 v.1, .int .i64 v.2.1, .string v.2.2, .int .i64 c, .slice sa sn sc, .slice wa wn wc, .int .i64 0, .bool false]] W fun e w' => e = .returned (.bool true) ∧ Below W.heap.size W w') := fun W hW => by have h := c_noOrd 1 tb i u v c sa sn sc wa wn wc 0 false W; rw [show noB 0 false = true from rfl] at h; exact h
  go_wp2_with (at_builtin; refine app_any _ rfl (.tmp 55) (.tmp 57) 34 rfl V.heap.size 9 iI (.string ⟨#[]⟩) 1 16 Tryd.underlying34 hiI.out hz0.out hz1.out hz2.out rfl (by omega) (.slice (some ⟨w2.heap.size, 0, none⟩) 2 2) 2 (strs [⟨#[115, 101, 108, 101, 99, 116]⟩, itB tb]) rfl (own_below Ow5.out ((Below.refl _ _).alloc (Nat.le_refl _) _)) _ 2 2 (strs [⟨#[119, 104, 101, 114, 101]⟩, xtS LW wn]) rfl (fun ex => by cases ex) rfl (new_atL _ [⟨#[119, 104, 101, 114, 101]⟩, xtS LW wn] _ (by simp)) (strs_cells _) (by unfold maxLen; omega) (by omega) (by simp; omega) ?_; intro aw6 cw6 w6 how6 hgw6 hxw6; have Lw6 : Hid (Below V.heap.size V w6) := app_L1 Lw5.out Ow5.out hgw6; have Ow6 : Hid (w6.ownsRow V.heap.size 9 1 (.slice aw6 4 cw6) 4 (strs [⟨#[115, 101, 108, 101, 99, 116]⟩, itB tb, ⟨#[119, 104, 101, 114, 101]⟩, xtS LW wn])) := how6; have lw6 : V.heap.size ≤ w6.heap.size := Lw6.out.size; clear how6 hgw6 hxw6; have x0 : w6.cell? ⟨w.heap.size, 0, none⟩ = some (.int .i64 1) := (XV.out.belowS Lw6.out).cell 0; have x1 : w6.cell? ⟨w.heap.size, 1, none⟩ = some (.int .i64 tb) := (XV.out.belowS Lw6.out).cell 1; have x2 : w6.cell? ⟨w.heap.size, 2, none⟩ = some (.int .i64 i) := (XV.out.belowS Lw6.out).cell 2; have x3 : w6.cell? ⟨w.heap.size, 3, none⟩ = some (.int .i64 u.1) := (XV.out.belowS Lw6.out).cell 3; have x4 : w6.cell? ⟨w.heap.size, 4, none⟩ = some (.int .i64 u.2.1) := (XV.out.belowS Lw6.out).cell 4; have x5 : w6.cell? ⟨w.heap.size, 5, none⟩ = some (.string u.2.2) := (XV.out.belowS Lw6.out).cell 5; have x6 : w6.cell? ⟨w.heap.size, 6, none⟩ = some (.int .i64 v.1) := (XV.out.belowS Lw6.out).cell 6; have x7 : w6.cell? ⟨w.heap.size, 7, none⟩ = some (.int .i64 v.2.1) := (XV.out.belowS Lw6.out).cell 7; have x8 : w6.cell? ⟨w.heap.size, 8, none⟩ = some (.string v.2.2) := (XV.out.belowS Lw6.out).cell 8; have x9 : w6.cell? ⟨w.heap.size, 9, none⟩ = some (.int .i64 c) := (XV.out.belowS Lw6.out).cell 9; have x10 : w6.cell? ⟨w.heap.size, 10, none⟩ = some (.slice sa sn sc) := (XV.out.belowS Lw6.out).cell 10; have x11 : w6.cell? ⟨w.heap.size, 11, none⟩ = some (.slice wa wn wc) := (XV.out.belowS Lw6.out).cell 11; have x12 : w6.cell? ⟨w.heap.size, 12, none⟩ = some (.int .i64 0) := (XV.out.belowS Lw6.out).cell 12; have x13 : w6.cell? ⟨w.heap.size, 13, none⟩ = some (.bool false) := (XV.out.belowS Lw6.out).cell 13)
  refine (C.out _ Lw6.out).mono ?_
  rintro e w7 ⟨rfl, hb⟩
  have Lw7 : Hid (Below V.heap.size V w7) := Lw6.out.trans (hb.mono Lw6.out.size)
  have Ow7 : Hid (w7.ownsRow V.heap.size 9 1 (.slice aw6 4 cw6) 4 (strs [⟨#[115, 101, 108, 101, 99, 116]⟩, itB tb, ⟨#[119, 104, 101, 114, 101]⟩, xtS LW wn])) := own_below Ow6.out hb
  have lw7 : V.heap.size ≤ w7.heap.size := Lw7.out.size
  clear C hb x0 x1 x2 x3 x4 x5 x6 x7 x8 x9 x10 x11 x12 x13
  have zj : (joinS [⟨#[115, 101, 108, 101, 99, 116]⟩, itB tb, ⟨#[119, 104, 101, 114, 101]⟩, xtS LW wn]).size ≤ 100000000 := by
    have := join_size (⟨#[115, 101, 108, 101, 99, 116]⟩) [itB tb, ⟨#[119, 104, 101, 114, 101]⟩, xtS LW wn] 1200 (fun y hy => by
      simp only [List.mem_cons, List.not_mem_nil, or_false] at hy
      rcases hy with rfl | rfl | rfl
      · exact (Nat.le_trans zI.out (by omega))
      · exact (show (_ : Nat) ≤ 1200 by decide)
      · exact zW.out
      )
    have h0 : (⟨#[115, 101, 108, 101, 99, 116]⟩ : ByteArray).size ≤ 10 := by decide
    simp only [List.length_cons, List.length_nil] at this
    omega
  have x13 : w7.cell? ⟨w.heap.size, 13, none⟩ = some (.bool false) := (XV.out.belowS Lw7.out).cell 13
  have HJ : Hid (∀ (W : World) (a : Option Addr) (c : Nat), W.ownsRow V.heap.size 9 1 (.slice a 4 c) 4 (strs [⟨#[115, 101, 108, 101, 99, 116]⟩, itB tb, ⟨#[119, 104, 101, 114, 101]⟩, xtS LW wn]) → Calls Tryd.prog 47 #[.slice a 4 c, .string ⟨#[32]⟩] W fun e w' => e = .returned (.string (joinS [⟨#[115, 101, 108, 101, 99, 116]⟩, itB tb, ⟨#[119, 104, 101, 114, 101]⟩, xtS LW wn])) ∧ Below W.heap.size W w') := fun W a c h => c_joinO V.heap.size a c 4 [⟨#[115, 101, 108, 101, 99, 116]⟩, itB tb, ⟨#[119, 104, 101, 114, 101]⟩, xtS LW wn] W h (by omega) (by omega) zj
  clear zj
  go_wp2_with fail
  refine (HJ.out _ _ _ Ow7.out).mono ?_
  rintro e w8 ⟨rfl, hb⟩
  have BX : Hid (Below w.heap.size w w8) := BV.out.trans ((Lw7.out.trans (hb.mono Lw7.out.size)).mono BV.out.size)
  clear hb HJ
  go_wp2
  go_ret2
  exact ⟨rfl, BX.out⟩
set_option maxRecDepth 100000 in
set_option maxHeartbeats 8000000 in
theorem c_stI_S11 (tb i : Int) (u v : VV) (c : Int) (sa : Option Addr) (sn sc : Nat) (wa : Option Addr) (wn wc : Nat) (on : Nat) (LS LW : List EN) (w : World) (h1 : u.2.2.size ≤ maxLen) (h2 : v.2.2.size ≤ maxLen) (s2 : RdE w sa sn LS) (hs : sn ≤ 1048576) (s3 : ∀ x ∈ LS, x.t.size ≤ maxLen) (w2 : RdE w wa wn LW) (hw : wn ≤ 1048576) (w3 : ∀ x ∈ LW, x.t.size ≤ maxLen) (T : TabX w) (htb : 1 ≤ tb ∧ tb ≤ 3) (hst : stB 1 tb (rowZ i u v) (rowB i u v) c sn (okX LS sn) wn (okX LW wn) (on : Int) false = true) (hwn : (wn == 0) = false) (hon : on < 3) (hno : noB (on : Int) false = false) :
    Calls Tryd.prog 20 #[.agg #[.int .i64 1, .int .i64 tb, .int .i64 i, .int .i64 u.1, .int .i64 u.2.1, .string u.2.2, .int .i64 v.1, .int .i64 v.2.1, .string v.2.2, .int .i64 c, .slice sa sn sc, .slice wa wn wc, .int .i64 (on : Int), .bool false]] w fun e w' => e = .returned (.tuple #[.string (joinS [⟨#[115, 101, 108, 101, 99, 116]⟩, itB tb, ⟨#[119, 104, 101, 114, 101]⟩, xtS LW wn, ⟨#[111, 114, 100, 101, 114]⟩, clT (on : Int)]), .int .i64 0]) ∧ Below w.heap.size w w' := by
  obtain ⟨V, hV⟩ : ∃ W, w.alloc (.cells #[.int .i64 1, .int .i64 tb, .int .i64 i, .int .i64 u.1, .int .i64 u.2.1, .string u.2.2, .int .i64 v.1, .int .i64 v.2.1, .string v.2.2, .int .i64 c, .slice sa sn sc, .slice wa wn wc, .int .i64 (on : Int), .bool false] 52) = W := ⟨_, rfl⟩
  have BV : Hid (Below w.heap.size w V) := by unfold Hid; rw [← hV]; exact (Below.refl _ _).alloc (Nat.le_refl _) _
  have XV : Hid (Box V w.heap.size 52 #[.int .i64 1, .int .i64 tb, .int .i64 i, .int .i64 u.1, .int .i64 u.2.1, .string u.2.2, .int .i64 v.1, .int .i64 v.2.1, .string v.2.2, .int .i64 c, .slice sa sn sc, .slice wa wn wc, .int .i64 (on : Int), .bool false]) := by unfold Hid; rw [← hV]; exact Box.new _ _ _
  have TV : Hid (TabX V) := T.below BV.out
  have HS : Hid (RdE V sa sn LS) := s2.below BV.out
  have HW : Hid (RdE V wa wn LW) := w2.below BV.out
  have S3 : Hid (∀ x ∈ LS, x.t.size ≤ maxLen) := s3
  have W3 : Hid (∀ x ∈ LW, x.t.size ≤ maxLen) := w3
  have CK := c_implSt 1 tb i u v c sa sn sc wa wn wc (on : Int) false LS LW V h1 h2 (s2.below BV.out) hs s3 (w2.below BV.out) hw w3
  rw [hst] at CK
  obtain ⟨iI, giV, gz0, gz1, gz2⟩ := info_parts infoStr
  have hiI : Hid (Tryd.prog.info? 9 = some iI) := giV
  have hz0 : Hid (iI.zero = some (.string ⟨#[]⟩)) := gz0
  have hz1 : Hid (iI.size = 1) := gz1
  have hz2 : Hid (iI.bytes = 16) := gz2
  have zS : Hid ((xtS LS sn).size ≤ 1200) := xtS_size s2.1 s3
  have zW : Hid ((xtS LW wn).size ≤ 1200) := xtS_size w2.1 w3
  have HI : Hid (∀ W, TabX W → Calls Tryd.prog 43 #[.int .i64 tb] W fun e w' => e = .returned (.string (itB tb)) ∧ Below W.heap.size W w') := fun W t => c_itoaB tb (by omega) (by omega) W t.t.p
  have zI : Hid ((itB tb).size ≤ 21) := itB_size (by omega) (by omega)
  have LV : Hid (Below V.heap.size V V) := Below.refl _ _
  have x0 : V.cell? ⟨w.heap.size, 0, none⟩ = some (.int .i64 1) := (XV.out.belowS LV.out).cell 0
  have x1 : V.cell? ⟨w.heap.size, 1, none⟩ = some (.int .i64 tb) := (XV.out.belowS LV.out).cell 1
  have x2 : V.cell? ⟨w.heap.size, 2, none⟩ = some (.int .i64 i) := (XV.out.belowS LV.out).cell 2
  have x3 : V.cell? ⟨w.heap.size, 3, none⟩ = some (.int .i64 u.1) := (XV.out.belowS LV.out).cell 3
  have x4 : V.cell? ⟨w.heap.size, 4, none⟩ = some (.int .i64 u.2.1) := (XV.out.belowS LV.out).cell 4
  have x5 : V.cell? ⟨w.heap.size, 5, none⟩ = some (.string u.2.2) := (XV.out.belowS LV.out).cell 5
  have x6 : V.cell? ⟨w.heap.size, 6, none⟩ = some (.int .i64 v.1) := (XV.out.belowS LV.out).cell 6
  have x7 : V.cell? ⟨w.heap.size, 7, none⟩ = some (.int .i64 v.2.1) := (XV.out.belowS LV.out).cell 7
  have x8 : V.cell? ⟨w.heap.size, 8, none⟩ = some (.string v.2.2) := (XV.out.belowS LV.out).cell 8
  have x9 : V.cell? ⟨w.heap.size, 9, none⟩ = some (.int .i64 c) := (XV.out.belowS LV.out).cell 9
  have x10 : V.cell? ⟨w.heap.size, 10, none⟩ = some (.slice sa sn sc) := (XV.out.belowS LV.out).cell 10
  have x11 : V.cell? ⟨w.heap.size, 11, none⟩ = some (.slice wa wn wc) := (XV.out.belowS LV.out).cell 11
  have x12 : V.cell? ⟨w.heap.size, 12, none⟩ = some (.int .i64 (on : Int)) := (XV.out.belowS LV.out).cell 12
  have x13 : V.cell? ⟨w.heap.size, 13, none⟩ = some (.bool false) := (XV.out.belowS LV.out).cell 13
  clear giV gz0 gz1 gz2 hst T s2 s3 w2 w3
  go_enter Tryd.func20, Tryd.ntmps20
  go_wp2_with fail
  refine CK.mono ?_
  rintro e w1 ⟨rfl, hb⟩
  have Lw1 : Hid (Below V.heap.size V w1) := hb
  have l1 : V.heap.size ≤ w1.heap.size := hb.size
  clear hb CK hV LV x0 x1 x2 x3 x4 x5 x6 x7 x8 x9 x10 x11 x12 x13
  have x0 : w1.cell? ⟨w.heap.size, 0, none⟩ = some (.int .i64 1) := (XV.out.belowS Lw1.out).cell 0
  have x1 : w1.cell? ⟨w.heap.size, 1, none⟩ = some (.int .i64 tb) := (XV.out.belowS Lw1.out).cell 1
  have tk : w1.cell? ⟨0, 1, none⟩ = some (.string ⟨#[115, 101, 108, 101, 99, 116]⟩) := (TV.out.below Lw1.out).k.2.1
  go_wp2_with fail
  go_region_held3 (fun x => x.cell? ⟨w.heap.size, 0, none⟩ = some (.int .i64 1) ∧ x.cell? ⟨w.heap.size, 1, none⟩ = some (.int .i64 tb) ∧ x.cell? ⟨0, 1, none⟩ = some (.string ⟨#[115, 101, 108, 101, 99, 116]⟩))
    (first | exact ⟨far6 hb2 x0, far6 hb2 x1, far6 hb2 tk⟩ | go_keep)
    (first | (go_at_call 43; refine (HI.out _ ((TV.out.below Lw1.out).below (below_drewN (Below.refl _ _) _))).mono ?_; rintro e w2 ⟨rfl, hb2⟩))
  have hb : Below w1.heap.size w1 w2 := (Below.refl w1.heap.size w1).drew.trans hb2
  have Lw2 : Hid (Below V.heap.size V w2) := Lw1.out.trans (hb.mono l1)
  obtain ⟨w3, hw3⟩ : ∃ W, w2.alloc (.cells #[.string ⟨#[115, 101, 108, 101, 99, 116]⟩, .string (itB tb)] 9) = W := ⟨_, rfl⟩
  have hbb : Below w2.heap.size w2 w3 := by rw [← hw3]; exact (Below.refl _ _).alloc (Nat.le_refl _) _
  have Lw3 : Hid (Below V.heap.size V w3) := Lw2.out.trans (hbb.mono Lw2.out.size)
  have Ow3 : Hid (w3.ownsRow V.heap.size 9 1 (.slice (some ⟨w2.heap.size, 0, none⟩) 2 2) 2 (strs [⟨#[115, 101, 108, 101, 99, 116]⟩, itB tb])) := by unfold Hid; rw [← hw3]; exact World.ownsRow_lit w2 #[.string ⟨#[115, 101, 108, 101, 99, 116]⟩, .string (itB tb)] 2 Lw2.out.size (by unfold maxLen; omega) rfl
  have l3 : V.heap.size ≤ w3.heap.size := Lw3.out.size
  clear hb hbb hb2 x0 x1 tk l1 HI
  have x0 : w3.cell? ⟨w.heap.size, 0, none⟩ = some (.int .i64 1) := (XV.out.belowS Lw3.out).cell 0
  have x11 : w3.cell? ⟨w.heap.size, 11, none⟩ = some (.slice wa wn wc) := (XV.out.belowS Lw3.out).cell 11
  have C : Hid (∀ W, Below V.heap.size V W → Calls Tryd.prog 45 #[.agg #[.slice wa wn wc]] W fun e w' => e = .returned (.bool false) ∧ Below W.heap.size W w') := fun W hW => by have h := c_lacks wa wn wc W; rw [hwn] at h; exact h
  go_wp2_with fail
  refine (C.out _ Lw3.out).mono ?_
  rintro e w4 ⟨rfl, hb⟩
  have Lw4 : Hid (Below V.heap.size V w4) := Lw3.out.trans (hb.mono Lw3.out.size)
  have Ow4 : Hid (w4.ownsRow V.heap.size 9 1 (.slice (some ⟨w2.heap.size, 0, none⟩) 2 2) 2 (strs [⟨#[115, 101, 108, 101, 99, 116]⟩, itB tb])) := own_below Ow3.out hb
  have lw4 : V.heap.size ≤ w4.heap.size := Lw4.out.size
  clear C hb x0 x11
  clear hw3
  have x11 : w4.cell? ⟨w.heap.size, 11, none⟩ = some (.slice wa wn wc) := (XV.out.belowS Lw4.out).cell 11
  have C : Hid (∀ W, Below V.heap.size V W → Calls Tryd.prog 10 #[.agg #[.slice wa wn wc]] W fun e w' => e = .returned (.tuple #[.string (xtS LW wn), .int .i64 (xtE LW wn)]) ∧ Below W.heap.size W w') := fun W hW => c_implT LW wa wn wc W (HW.out.below hW) hw W3.out (TV.out.below hW).t
  go_wp2_with fail
  refine (C.out _ Lw4.out).mono ?_
  rintro e w5 ⟨rfl, hb⟩
  have Lw5 : Hid (Below V.heap.size V w5) := Lw4.out.trans (hb.mono Lw4.out.size)
  have Ow5 : Hid (w5.ownsRow V.heap.size 9 1 (.slice (some ⟨w2.heap.size, 0, none⟩) 2 2) 2 (strs [⟨#[115, 101, 108, 101, 99, 116]⟩, itB tb])) := own_below Ow4.out hb
  have lw5 : V.heap.size ≤ w5.heap.size := Lw5.out.size
  clear C hb x11
  have C : Hid (∀ W, Below V.heap.size V W → Calls Tryd.prog 46 #[.agg #[.int .i64 1, .int .i64 tb, .int .i64 i, .int .i64 u.1, .int .i64 u.2.1, .string u.2.2, .int .i64 v.1, .int .i64 v.2.1, .string v.2.2, .int .i64 c, .slice sa sn sc, .slice wa wn wc, .int .i64 (on : Int), .bool false]] W fun e w' => e = .returned (.bool false) ∧ Below W.heap.size W w') := fun W hW => by have h := c_noOrd 1 tb i u v c sa sn sc wa wn wc (on : Int) false W; rw [show noB (on : Int) false = false from hno] at h; exact h
  go_wp2_with (at_builtin; refine app_any _ rfl (.tmp 55) (.tmp 57) 34 rfl V.heap.size 9 iI (.string ⟨#[]⟩) 1 16 Tryd.underlying34 hiI.out hz0.out hz1.out hz2.out rfl (by omega) (.slice (some ⟨w2.heap.size, 0, none⟩) 2 2) 2 (strs [⟨#[115, 101, 108, 101, 99, 116]⟩, itB tb]) rfl (own_below Ow5.out ((Below.refl _ _).alloc (Nat.le_refl _) _)) _ 2 2 (strs [⟨#[119, 104, 101, 114, 101]⟩, xtS LW wn]) rfl (fun ex => by cases ex) rfl (new_atL _ [⟨#[119, 104, 101, 114, 101]⟩, xtS LW wn] _ (by simp)) (strs_cells _) (by unfold maxLen; omega) (by omega) (by simp; omega) ?_; intro aw6 cw6 w6 how6 hgw6 hxw6; have Lw6 : Hid (Below V.heap.size V w6) := app_L1 Lw5.out Ow5.out hgw6; have Ow6 : Hid (w6.ownsRow V.heap.size 9 1 (.slice aw6 4 cw6) 4 (strs [⟨#[115, 101, 108, 101, 99, 116]⟩, itB tb, ⟨#[119, 104, 101, 114, 101]⟩, xtS LW wn])) := how6; have lw6 : V.heap.size ≤ w6.heap.size := Lw6.out.size; clear how6 hgw6 hxw6; have x0 : w6.cell? ⟨w.heap.size, 0, none⟩ = some (.int .i64 1) := (XV.out.belowS Lw6.out).cell 0; have x1 : w6.cell? ⟨w.heap.size, 1, none⟩ = some (.int .i64 tb) := (XV.out.belowS Lw6.out).cell 1; have x2 : w6.cell? ⟨w.heap.size, 2, none⟩ = some (.int .i64 i) := (XV.out.belowS Lw6.out).cell 2; have x3 : w6.cell? ⟨w.heap.size, 3, none⟩ = some (.int .i64 u.1) := (XV.out.belowS Lw6.out).cell 3; have x4 : w6.cell? ⟨w.heap.size, 4, none⟩ = some (.int .i64 u.2.1) := (XV.out.belowS Lw6.out).cell 4; have x5 : w6.cell? ⟨w.heap.size, 5, none⟩ = some (.string u.2.2) := (XV.out.belowS Lw6.out).cell 5; have x6 : w6.cell? ⟨w.heap.size, 6, none⟩ = some (.int .i64 v.1) := (XV.out.belowS Lw6.out).cell 6; have x7 : w6.cell? ⟨w.heap.size, 7, none⟩ = some (.int .i64 v.2.1) := (XV.out.belowS Lw6.out).cell 7; have x8 : w6.cell? ⟨w.heap.size, 8, none⟩ = some (.string v.2.2) := (XV.out.belowS Lw6.out).cell 8; have x9 : w6.cell? ⟨w.heap.size, 9, none⟩ = some (.int .i64 c) := (XV.out.belowS Lw6.out).cell 9; have x10 : w6.cell? ⟨w.heap.size, 10, none⟩ = some (.slice sa sn sc) := (XV.out.belowS Lw6.out).cell 10; have x11 : w6.cell? ⟨w.heap.size, 11, none⟩ = some (.slice wa wn wc) := (XV.out.belowS Lw6.out).cell 11; have x12 : w6.cell? ⟨w.heap.size, 12, none⟩ = some (.int .i64 (on : Int)) := (XV.out.belowS Lw6.out).cell 12; have x13 : w6.cell? ⟨w.heap.size, 13, none⟩ = some (.bool false) := (XV.out.belowS Lw6.out).cell 13)
  refine (C.out _ Lw6.out).mono ?_
  rintro e w7 ⟨rfl, hb⟩
  have Lw7 : Hid (Below V.heap.size V w7) := Lw6.out.trans (hb.mono Lw6.out.size)
  have Ow7 : Hid (w7.ownsRow V.heap.size 9 1 (.slice aw6 4 cw6) 4 (strs [⟨#[115, 101, 108, 101, 99, 116]⟩, itB tb, ⟨#[119, 104, 101, 114, 101]⟩, xtS LW wn])) := own_below Ow6.out hb
  have lw7 : V.heap.size ≤ w7.heap.size := Lw7.out.size
  clear C hb x0 x1 x2 x3 x4 x5 x6 x7 x8 x9 x10 x11 x12 x13
  have x12 : w7.cell? ⟨w.heap.size, 12, none⟩ = some (.int .i64 (on : Int)) := (XV.out.belowS Lw7.out).cell 12
  have tc := (TV.out.below Lw7.out).t.col on hon
  have g1 : (0 : Int) ≤ (on : Int) := by omega
  have g2 : (on : Int) < 3 := by omega
  have zj : (joinS [⟨#[115, 101, 108, 101, 99, 116]⟩, itB tb, ⟨#[119, 104, 101, 114, 101]⟩, xtS LW wn, ⟨#[111, 114, 100, 101, 114]⟩, clT (on : Int)]).size ≤ 100000000 := by
    have := join_size (⟨#[115, 101, 108, 101, 99, 116]⟩) [itB tb, ⟨#[119, 104, 101, 114, 101]⟩, xtS LW wn, ⟨#[111, 114, 100, 101, 114]⟩, clT (on : Int)] 1200 (fun y hy => by
      simp only [List.mem_cons, List.not_mem_nil, or_false] at hy
      rcases hy with rfl | rfl | rfl | rfl | rfl
      · exact (Nat.le_trans zI.out (by omega))
      · exact (show (_ : Nat) ≤ 1200 by decide)
      · exact zW.out
      · exact (show (_ : Nat) ≤ 1200 by decide)
      · exact (Nat.le_trans (clT_size _) (by omega))
      )
    have h0 : (⟨#[115, 101, 108, 101, 99, 116]⟩ : ByteArray).size ≤ 10 := by decide
    simp only [List.length_cons, List.length_nil] at this
    omega
  have HJ : Hid (∀ (W : World) (a : Option Addr) (c : Nat), W.ownsRow V.heap.size 9 1 (.slice a 6 c) 6 (strs [⟨#[115, 101, 108, 101, 99, 116]⟩, itB tb, ⟨#[119, 104, 101, 114, 101]⟩, xtS LW wn, ⟨#[111, 114, 100, 101, 114]⟩, clT (on : Int)]) → Calls Tryd.prog 47 #[.slice a 6 c, .string ⟨#[32]⟩] W fun e w' => e = .returned (.string (joinS [⟨#[115, 101, 108, 101, 99, 116]⟩, itB tb, ⟨#[119, 104, 101, 114, 101]⟩, xtS LW wn, ⟨#[111, 114, 100, 101, 114]⟩, clT (on : Int)])) ∧ Below W.heap.size W w') := fun W a c h => c_joinO V.heap.size a c 6 [⟨#[115, 101, 108, 101, 99, 116]⟩, itB tb, ⟨#[119, 104, 101, 114, 101]⟩, xtS LW wn, ⟨#[111, 114, 100, 101, 114]⟩, clT (on : Int)] W h (by omega) (by omega) zj
  clear zj
  go_wp2_with (at_builtin; refine app_any _ rfl (.tmp 62) (.tmp 67) 34 rfl V.heap.size 9 iI (.string ⟨#[]⟩) 1 16 Tryd.underlying34 hiI.out hz0.out hz1.out hz2.out rfl (by omega) (.slice aw6 4 cw6) 4 (strs [⟨#[115, 101, 108, 101, 99, 116]⟩, itB tb, ⟨#[119, 104, 101, 114, 101]⟩, xtS LW wn]) rfl (own_below Ow7.out ((Below.refl _ _).alloc (Nat.le_refl _) _)) _ 2 2 (strs [⟨#[111, 114, 100, 101, 114]⟩, clT (on : Int)]) rfl (fun ex => by cases ex) rfl (new_atL _ [⟨#[111, 114, 100, 101, 114]⟩, clT (on : Int)] _ (by simp)) (strs_cells _) (by unfold maxLen; omega) (by omega) (by simp; omega) ?_; intro aw8 cw8 w8 how8 hgw8 hxw8; have Lw8 : Hid (Below V.heap.size V w8) := app_L1 Lw7.out Ow7.out hgw8; have Ow8 : Hid (w8.ownsRow V.heap.size 9 1 (.slice aw8 6 cw8) 6 (strs [⟨#[115, 101, 108, 101, 99, 116]⟩, itB tb, ⟨#[119, 104, 101, 114, 101]⟩, xtS LW wn, ⟨#[111, 114, 100, 101, 114]⟩, clT (on : Int)])) := how8; have lw8 : V.heap.size ≤ w8.heap.size := Lw8.out.size; clear how8 hgw8 hxw8; have x13 : w8.cell? ⟨w.heap.size, 13, none⟩ = some (.bool false) := (XV.out.belowS Lw8.out).cell 13)
  refine (HJ.out _ _ _ Ow8.out).mono ?_
  rintro e w9 ⟨rfl, hb⟩
  have BX : Hid (Below w.heap.size w w9) := BV.out.trans ((Lw8.out.trans (hb.mono Lw8.out.size)).mono BV.out.size)
  clear hb HJ
  go_wp2
  go_ret2
  exact ⟨rfl, BX.out⟩
set_option maxRecDepth 100000 in
set_option maxHeartbeats 8000000 in
theorem c_stI_S12 (tb i : Int) (u v : VV) (c : Int) (sa : Option Addr) (sn sc : Nat) (wa : Option Addr) (wn wc : Nat) (on : Nat) (LS LW : List EN) (w : World) (h1 : u.2.2.size ≤ maxLen) (h2 : v.2.2.size ≤ maxLen) (s2 : RdE w sa sn LS) (hs : sn ≤ 1048576) (s3 : ∀ x ∈ LS, x.t.size ≤ maxLen) (w2 : RdE w wa wn LW) (hw : wn ≤ 1048576) (w3 : ∀ x ∈ LW, x.t.size ≤ maxLen) (T : TabX w) (htb : 1 ≤ tb ∧ tb ≤ 3) (hst : stB 1 tb (rowZ i u v) (rowB i u v) c sn (okX LS sn) wn (okX LW wn) (on : Int) true = true) (hwn : (wn == 0) = false) (hon : on < 3) (hno : noB (on : Int) true = false) :
    Calls Tryd.prog 20 #[.agg #[.int .i64 1, .int .i64 tb, .int .i64 i, .int .i64 u.1, .int .i64 u.2.1, .string u.2.2, .int .i64 v.1, .int .i64 v.2.1, .string v.2.2, .int .i64 c, .slice sa sn sc, .slice wa wn wc, .int .i64 (on : Int), .bool true]] w fun e w' => e = .returned (.tuple #[.string (joinS [⟨#[115, 101, 108, 101, 99, 116]⟩, itB tb, ⟨#[119, 104, 101, 114, 101]⟩, xtS LW wn, ⟨#[111, 114, 100, 101, 114]⟩, clT (on : Int), ⟨#[100, 101, 115, 99]⟩]), .int .i64 0]) ∧ Below w.heap.size w w' := by
  obtain ⟨V, hV⟩ : ∃ W, w.alloc (.cells #[.int .i64 1, .int .i64 tb, .int .i64 i, .int .i64 u.1, .int .i64 u.2.1, .string u.2.2, .int .i64 v.1, .int .i64 v.2.1, .string v.2.2, .int .i64 c, .slice sa sn sc, .slice wa wn wc, .int .i64 (on : Int), .bool true] 52) = W := ⟨_, rfl⟩
  have BV : Hid (Below w.heap.size w V) := by unfold Hid; rw [← hV]; exact (Below.refl _ _).alloc (Nat.le_refl _) _
  have XV : Hid (Box V w.heap.size 52 #[.int .i64 1, .int .i64 tb, .int .i64 i, .int .i64 u.1, .int .i64 u.2.1, .string u.2.2, .int .i64 v.1, .int .i64 v.2.1, .string v.2.2, .int .i64 c, .slice sa sn sc, .slice wa wn wc, .int .i64 (on : Int), .bool true]) := by unfold Hid; rw [← hV]; exact Box.new _ _ _
  have TV : Hid (TabX V) := T.below BV.out
  have HS : Hid (RdE V sa sn LS) := s2.below BV.out
  have HW : Hid (RdE V wa wn LW) := w2.below BV.out
  have S3 : Hid (∀ x ∈ LS, x.t.size ≤ maxLen) := s3
  have W3 : Hid (∀ x ∈ LW, x.t.size ≤ maxLen) := w3
  have CK := c_implSt 1 tb i u v c sa sn sc wa wn wc (on : Int) true LS LW V h1 h2 (s2.below BV.out) hs s3 (w2.below BV.out) hw w3
  rw [hst] at CK
  obtain ⟨iI, giV, gz0, gz1, gz2⟩ := info_parts infoStr
  have hiI : Hid (Tryd.prog.info? 9 = some iI) := giV
  have hz0 : Hid (iI.zero = some (.string ⟨#[]⟩)) := gz0
  have hz1 : Hid (iI.size = 1) := gz1
  have hz2 : Hid (iI.bytes = 16) := gz2
  have zS : Hid ((xtS LS sn).size ≤ 1200) := xtS_size s2.1 s3
  have zW : Hid ((xtS LW wn).size ≤ 1200) := xtS_size w2.1 w3
  have HI : Hid (∀ W, TabX W → Calls Tryd.prog 43 #[.int .i64 tb] W fun e w' => e = .returned (.string (itB tb)) ∧ Below W.heap.size W w') := fun W t => c_itoaB tb (by omega) (by omega) W t.t.p
  have zI : Hid ((itB tb).size ≤ 21) := itB_size (by omega) (by omega)
  have LV : Hid (Below V.heap.size V V) := Below.refl _ _
  have x0 : V.cell? ⟨w.heap.size, 0, none⟩ = some (.int .i64 1) := (XV.out.belowS LV.out).cell 0
  have x1 : V.cell? ⟨w.heap.size, 1, none⟩ = some (.int .i64 tb) := (XV.out.belowS LV.out).cell 1
  have x2 : V.cell? ⟨w.heap.size, 2, none⟩ = some (.int .i64 i) := (XV.out.belowS LV.out).cell 2
  have x3 : V.cell? ⟨w.heap.size, 3, none⟩ = some (.int .i64 u.1) := (XV.out.belowS LV.out).cell 3
  have x4 : V.cell? ⟨w.heap.size, 4, none⟩ = some (.int .i64 u.2.1) := (XV.out.belowS LV.out).cell 4
  have x5 : V.cell? ⟨w.heap.size, 5, none⟩ = some (.string u.2.2) := (XV.out.belowS LV.out).cell 5
  have x6 : V.cell? ⟨w.heap.size, 6, none⟩ = some (.int .i64 v.1) := (XV.out.belowS LV.out).cell 6
  have x7 : V.cell? ⟨w.heap.size, 7, none⟩ = some (.int .i64 v.2.1) := (XV.out.belowS LV.out).cell 7
  have x8 : V.cell? ⟨w.heap.size, 8, none⟩ = some (.string v.2.2) := (XV.out.belowS LV.out).cell 8
  have x9 : V.cell? ⟨w.heap.size, 9, none⟩ = some (.int .i64 c) := (XV.out.belowS LV.out).cell 9
  have x10 : V.cell? ⟨w.heap.size, 10, none⟩ = some (.slice sa sn sc) := (XV.out.belowS LV.out).cell 10
  have x11 : V.cell? ⟨w.heap.size, 11, none⟩ = some (.slice wa wn wc) := (XV.out.belowS LV.out).cell 11
  have x12 : V.cell? ⟨w.heap.size, 12, none⟩ = some (.int .i64 (on : Int)) := (XV.out.belowS LV.out).cell 12
  have x13 : V.cell? ⟨w.heap.size, 13, none⟩ = some (.bool true) := (XV.out.belowS LV.out).cell 13
  clear giV gz0 gz1 gz2 hst T s2 s3 w2 w3
  go_enter Tryd.func20, Tryd.ntmps20
  go_wp2_with fail
  refine CK.mono ?_
  rintro e w1 ⟨rfl, hb⟩
  have Lw1 : Hid (Below V.heap.size V w1) := hb
  have l1 : V.heap.size ≤ w1.heap.size := hb.size
  clear hb CK hV LV x0 x1 x2 x3 x4 x5 x6 x7 x8 x9 x10 x11 x12 x13
  have x0 : w1.cell? ⟨w.heap.size, 0, none⟩ = some (.int .i64 1) := (XV.out.belowS Lw1.out).cell 0
  have x1 : w1.cell? ⟨w.heap.size, 1, none⟩ = some (.int .i64 tb) := (XV.out.belowS Lw1.out).cell 1
  have tk : w1.cell? ⟨0, 1, none⟩ = some (.string ⟨#[115, 101, 108, 101, 99, 116]⟩) := (TV.out.below Lw1.out).k.2.1
  go_wp2_with fail
  go_region_held3 (fun x => x.cell? ⟨w.heap.size, 0, none⟩ = some (.int .i64 1) ∧ x.cell? ⟨w.heap.size, 1, none⟩ = some (.int .i64 tb) ∧ x.cell? ⟨0, 1, none⟩ = some (.string ⟨#[115, 101, 108, 101, 99, 116]⟩))
    (first | exact ⟨far6 hb2 x0, far6 hb2 x1, far6 hb2 tk⟩ | go_keep)
    (first | (go_at_call 43; refine (HI.out _ ((TV.out.below Lw1.out).below (below_drewN (Below.refl _ _) _))).mono ?_; rintro e w2 ⟨rfl, hb2⟩))
  have hb : Below w1.heap.size w1 w2 := (Below.refl w1.heap.size w1).drew.trans hb2
  have Lw2 : Hid (Below V.heap.size V w2) := Lw1.out.trans (hb.mono l1)
  obtain ⟨w3, hw3⟩ : ∃ W, w2.alloc (.cells #[.string ⟨#[115, 101, 108, 101, 99, 116]⟩, .string (itB tb)] 9) = W := ⟨_, rfl⟩
  have hbb : Below w2.heap.size w2 w3 := by rw [← hw3]; exact (Below.refl _ _).alloc (Nat.le_refl _) _
  have Lw3 : Hid (Below V.heap.size V w3) := Lw2.out.trans (hbb.mono Lw2.out.size)
  have Ow3 : Hid (w3.ownsRow V.heap.size 9 1 (.slice (some ⟨w2.heap.size, 0, none⟩) 2 2) 2 (strs [⟨#[115, 101, 108, 101, 99, 116]⟩, itB tb])) := by unfold Hid; rw [← hw3]; exact World.ownsRow_lit w2 #[.string ⟨#[115, 101, 108, 101, 99, 116]⟩, .string (itB tb)] 2 Lw2.out.size (by unfold maxLen; omega) rfl
  have l3 : V.heap.size ≤ w3.heap.size := Lw3.out.size
  clear hb hbb hb2 x0 x1 tk l1 HI
  have x0 : w3.cell? ⟨w.heap.size, 0, none⟩ = some (.int .i64 1) := (XV.out.belowS Lw3.out).cell 0
  have x11 : w3.cell? ⟨w.heap.size, 11, none⟩ = some (.slice wa wn wc) := (XV.out.belowS Lw3.out).cell 11
  have C : Hid (∀ W, Below V.heap.size V W → Calls Tryd.prog 45 #[.agg #[.slice wa wn wc]] W fun e w' => e = .returned (.bool false) ∧ Below W.heap.size W w') := fun W hW => by have h := c_lacks wa wn wc W; rw [hwn] at h; exact h
  go_wp2_with fail
  refine (C.out _ Lw3.out).mono ?_
  rintro e w4 ⟨rfl, hb⟩
  have Lw4 : Hid (Below V.heap.size V w4) := Lw3.out.trans (hb.mono Lw3.out.size)
  have Ow4 : Hid (w4.ownsRow V.heap.size 9 1 (.slice (some ⟨w2.heap.size, 0, none⟩) 2 2) 2 (strs [⟨#[115, 101, 108, 101, 99, 116]⟩, itB tb])) := own_below Ow3.out hb
  have lw4 : V.heap.size ≤ w4.heap.size := Lw4.out.size
  clear C hb x0 x11
  clear hw3
  have x11 : w4.cell? ⟨w.heap.size, 11, none⟩ = some (.slice wa wn wc) := (XV.out.belowS Lw4.out).cell 11
  have C : Hid (∀ W, Below V.heap.size V W → Calls Tryd.prog 10 #[.agg #[.slice wa wn wc]] W fun e w' => e = .returned (.tuple #[.string (xtS LW wn), .int .i64 (xtE LW wn)]) ∧ Below W.heap.size W w') := fun W hW => c_implT LW wa wn wc W (HW.out.below hW) hw W3.out (TV.out.below hW).t
  go_wp2_with fail
  refine (C.out _ Lw4.out).mono ?_
  rintro e w5 ⟨rfl, hb⟩
  have Lw5 : Hid (Below V.heap.size V w5) := Lw4.out.trans (hb.mono Lw4.out.size)
  have Ow5 : Hid (w5.ownsRow V.heap.size 9 1 (.slice (some ⟨w2.heap.size, 0, none⟩) 2 2) 2 (strs [⟨#[115, 101, 108, 101, 99, 116]⟩, itB tb])) := own_below Ow4.out hb
  have lw5 : V.heap.size ≤ w5.heap.size := Lw5.out.size
  clear C hb x11
  have C : Hid (∀ W, Below V.heap.size V W → Calls Tryd.prog 46 #[.agg #[.int .i64 1, .int .i64 tb, .int .i64 i, .int .i64 u.1, .int .i64 u.2.1, .string u.2.2, .int .i64 v.1, .int .i64 v.2.1, .string v.2.2, .int .i64 c, .slice sa sn sc, .slice wa wn wc, .int .i64 (on : Int), .bool true]] W fun e w' => e = .returned (.bool false) ∧ Below W.heap.size W w') := fun W hW => by have h := c_noOrd 1 tb i u v c sa sn sc wa wn wc (on : Int) true W; rw [show noB (on : Int) true = false from hno] at h; exact h
  go_wp2_with (at_builtin; refine app_any _ rfl (.tmp 55) (.tmp 57) 34 rfl V.heap.size 9 iI (.string ⟨#[]⟩) 1 16 Tryd.underlying34 hiI.out hz0.out hz1.out hz2.out rfl (by omega) (.slice (some ⟨w2.heap.size, 0, none⟩) 2 2) 2 (strs [⟨#[115, 101, 108, 101, 99, 116]⟩, itB tb]) rfl (own_below Ow5.out ((Below.refl _ _).alloc (Nat.le_refl _) _)) _ 2 2 (strs [⟨#[119, 104, 101, 114, 101]⟩, xtS LW wn]) rfl (fun ex => by cases ex) rfl (new_atL _ [⟨#[119, 104, 101, 114, 101]⟩, xtS LW wn] _ (by simp)) (strs_cells _) (by unfold maxLen; omega) (by omega) (by simp; omega) ?_; intro aw6 cw6 w6 how6 hgw6 hxw6; have Lw6 : Hid (Below V.heap.size V w6) := app_L1 Lw5.out Ow5.out hgw6; have Ow6 : Hid (w6.ownsRow V.heap.size 9 1 (.slice aw6 4 cw6) 4 (strs [⟨#[115, 101, 108, 101, 99, 116]⟩, itB tb, ⟨#[119, 104, 101, 114, 101]⟩, xtS LW wn])) := how6; have lw6 : V.heap.size ≤ w6.heap.size := Lw6.out.size; clear how6 hgw6 hxw6; have x0 : w6.cell? ⟨w.heap.size, 0, none⟩ = some (.int .i64 1) := (XV.out.belowS Lw6.out).cell 0; have x1 : w6.cell? ⟨w.heap.size, 1, none⟩ = some (.int .i64 tb) := (XV.out.belowS Lw6.out).cell 1; have x2 : w6.cell? ⟨w.heap.size, 2, none⟩ = some (.int .i64 i) := (XV.out.belowS Lw6.out).cell 2; have x3 : w6.cell? ⟨w.heap.size, 3, none⟩ = some (.int .i64 u.1) := (XV.out.belowS Lw6.out).cell 3; have x4 : w6.cell? ⟨w.heap.size, 4, none⟩ = some (.int .i64 u.2.1) := (XV.out.belowS Lw6.out).cell 4; have x5 : w6.cell? ⟨w.heap.size, 5, none⟩ = some (.string u.2.2) := (XV.out.belowS Lw6.out).cell 5; have x6 : w6.cell? ⟨w.heap.size, 6, none⟩ = some (.int .i64 v.1) := (XV.out.belowS Lw6.out).cell 6; have x7 : w6.cell? ⟨w.heap.size, 7, none⟩ = some (.int .i64 v.2.1) := (XV.out.belowS Lw6.out).cell 7; have x8 : w6.cell? ⟨w.heap.size, 8, none⟩ = some (.string v.2.2) := (XV.out.belowS Lw6.out).cell 8; have x9 : w6.cell? ⟨w.heap.size, 9, none⟩ = some (.int .i64 c) := (XV.out.belowS Lw6.out).cell 9; have x10 : w6.cell? ⟨w.heap.size, 10, none⟩ = some (.slice sa sn sc) := (XV.out.belowS Lw6.out).cell 10; have x11 : w6.cell? ⟨w.heap.size, 11, none⟩ = some (.slice wa wn wc) := (XV.out.belowS Lw6.out).cell 11; have x12 : w6.cell? ⟨w.heap.size, 12, none⟩ = some (.int .i64 (on : Int)) := (XV.out.belowS Lw6.out).cell 12; have x13 : w6.cell? ⟨w.heap.size, 13, none⟩ = some (.bool true) := (XV.out.belowS Lw6.out).cell 13)
  refine (C.out _ Lw6.out).mono ?_
  rintro e w7 ⟨rfl, hb⟩
  have Lw7 : Hid (Below V.heap.size V w7) := Lw6.out.trans (hb.mono Lw6.out.size)
  have Ow7 : Hid (w7.ownsRow V.heap.size 9 1 (.slice aw6 4 cw6) 4 (strs [⟨#[115, 101, 108, 101, 99, 116]⟩, itB tb, ⟨#[119, 104, 101, 114, 101]⟩, xtS LW wn])) := own_below Ow6.out hb
  have lw7 : V.heap.size ≤ w7.heap.size := Lw7.out.size
  clear C hb x0 x1 x2 x3 x4 x5 x6 x7 x8 x9 x10 x11 x12 x13
  have x12 : w7.cell? ⟨w.heap.size, 12, none⟩ = some (.int .i64 (on : Int)) := (XV.out.belowS Lw7.out).cell 12
  have tc := (TV.out.below Lw7.out).t.col on hon
  have g1 : (0 : Int) ≤ (on : Int) := by omega
  have g2 : (on : Int) < 3 := by omega
  -- desc follows
  have zj : (joinS [⟨#[115, 101, 108, 101, 99, 116]⟩, itB tb, ⟨#[119, 104, 101, 114, 101]⟩, xtS LW wn, ⟨#[111, 114, 100, 101, 114]⟩, clT (on : Int), ⟨#[100, 101, 115, 99]⟩]).size ≤ 100000000 := by
    have := join_size (⟨#[115, 101, 108, 101, 99, 116]⟩) [itB tb, ⟨#[119, 104, 101, 114, 101]⟩, xtS LW wn, ⟨#[111, 114, 100, 101, 114]⟩, clT (on : Int), ⟨#[100, 101, 115, 99]⟩] 1200 (fun y hy => by
      simp only [List.mem_cons, List.not_mem_nil, or_false] at hy
      rcases hy with rfl | rfl | rfl | rfl | rfl | rfl
      · exact (Nat.le_trans zI.out (by omega))
      · exact (show (_ : Nat) ≤ 1200 by decide)
      · exact zW.out
      · exact (show (_ : Nat) ≤ 1200 by decide)
      · exact (Nat.le_trans (clT_size _) (by omega))
      · exact (show (_ : Nat) ≤ 1200 by decide)
      )
    have h0 : (⟨#[115, 101, 108, 101, 99, 116]⟩ : ByteArray).size ≤ 10 := by decide
    simp only [List.length_cons, List.length_nil] at this
    omega
  have HJ : Hid (∀ (W : World) (a : Option Addr) (c : Nat), W.ownsRow V.heap.size 9 1 (.slice a 7 c) 7 (strs [⟨#[115, 101, 108, 101, 99, 116]⟩, itB tb, ⟨#[119, 104, 101, 114, 101]⟩, xtS LW wn, ⟨#[111, 114, 100, 101, 114]⟩, clT (on : Int), ⟨#[100, 101, 115, 99]⟩]) → Calls Tryd.prog 47 #[.slice a 7 c, .string ⟨#[32]⟩] W fun e w' => e = .returned (.string (joinS [⟨#[115, 101, 108, 101, 99, 116]⟩, itB tb, ⟨#[119, 104, 101, 114, 101]⟩, xtS LW wn, ⟨#[111, 114, 100, 101, 114]⟩, clT (on : Int), ⟨#[100, 101, 115, 99]⟩])) ∧ Below W.heap.size W w') := fun W a c h => c_joinO V.heap.size a c 7 [⟨#[115, 101, 108, 101, 99, 116]⟩, itB tb, ⟨#[119, 104, 101, 114, 101]⟩, xtS LW wn, ⟨#[111, 114, 100, 101, 114]⟩, clT (on : Int), ⟨#[100, 101, 115, 99]⟩] W h (by omega) (by omega) zj
  clear zj
  go_wp2_with (first | (at_builtin; refine app_any _ rfl (.tmp 62) (.tmp 67) 34 rfl V.heap.size 9 iI (.string ⟨#[]⟩) 1 16 Tryd.underlying34 hiI.out hz0.out hz1.out hz2.out rfl (by omega) (.slice aw6 4 cw6) 4 (strs [⟨#[115, 101, 108, 101, 99, 116]⟩, itB tb, ⟨#[119, 104, 101, 114, 101]⟩, xtS LW wn]) rfl (own_below Ow7.out ((Below.refl _ _).alloc (Nat.le_refl _) _)) _ 2 2 (strs [⟨#[111, 114, 100, 101, 114]⟩, clT (on : Int)]) rfl (fun ex => by cases ex) rfl (new_atL _ [⟨#[111, 114, 100, 101, 114]⟩, clT (on : Int)] _ (by simp)) (strs_cells _) (by unfold maxLen; omega) (by omega) (by simp; omega) ?_; intro aw8 cw8 w8 how8 hgw8 hxw8; have Lw8 : Hid (Below V.heap.size V w8) := app_L1 Lw7.out Ow7.out hgw8; have Ow8 : Hid (w8.ownsRow V.heap.size 9 1 (.slice aw8 6 cw8) 6 (strs [⟨#[115, 101, 108, 101, 99, 116]⟩, itB tb, ⟨#[119, 104, 101, 114, 101]⟩, xtS LW wn, ⟨#[111, 114, 100, 101, 114]⟩, clT (on : Int)])) := how8; have lw8 : V.heap.size ≤ w8.heap.size := Lw8.out.size; clear how8 hgw8 hxw8; have x13 : w8.cell? ⟨w.heap.size, 13, none⟩ = some (.bool true) := (XV.out.belowS Lw8.out).cell 13) | (at_builtin; refine app_any _ rfl (.tmp 71) (.tmp 72) 34 rfl V.heap.size 9 iI (.string ⟨#[]⟩) 1 16 Tryd.underlying34 hiI.out hz0.out hz1.out hz2.out rfl (by omega) (.slice aw8 6 cw8) 6 (strs [⟨#[115, 101, 108, 101, 99, 116]⟩, itB tb, ⟨#[119, 104, 101, 114, 101]⟩, xtS LW wn, ⟨#[111, 114, 100, 101, 114]⟩, clT (on : Int)]) rfl (own_below Ow8.out ((Below.refl _ _).alloc (Nat.le_refl _) _)) _ 1 1 (strs [⟨#[100, 101, 115, 99]⟩]) rfl (fun ex => by cases ex) rfl (new_atL _ [⟨#[100, 101, 115, 99]⟩] _ (by simp)) (strs_cells _) (by unfold maxLen; omega) (by omega) (by simp; omega) ?_; intro aw9 cw9 w9 how9 hgw9 hxw9; have Lw9 : Hid (Below V.heap.size V w9) := app_L1 Lw8.out Ow8.out hgw9; have Ow9 : Hid (w9.ownsRow V.heap.size 9 1 (.slice aw9 7 cw9) 7 (strs [⟨#[115, 101, 108, 101, 99, 116]⟩, itB tb, ⟨#[119, 104, 101, 114, 101]⟩, xtS LW wn, ⟨#[111, 114, 100, 101, 114]⟩, clT (on : Int), ⟨#[100, 101, 115, 99]⟩])) := how9; have lw9 : V.heap.size ≤ w9.heap.size := Lw9.out.size; clear how9 hgw9 hxw9))
  refine (HJ.out _ _ _ Ow9.out).mono ?_
  rintro e w10 ⟨rfl, hb⟩
  have BX : Hid (Below w.heap.size w w10) := BV.out.trans ((Lw9.out.trans (hb.mono Lw9.out.size)).mono BV.out.size)
  clear hb HJ
  go_wp2
  go_ret2
  exact ⟨rfl, BX.out⟩

end Go.Proofs.YtknjglgellhchaaDoor
