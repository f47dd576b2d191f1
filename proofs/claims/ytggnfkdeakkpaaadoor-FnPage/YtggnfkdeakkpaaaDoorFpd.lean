/-
  The walk of the law of FnPage.
-/
import Derived.Test.YtggnfkdeakkpaaaDoorFpc
import Derived.Deep.QuietTactic
import Derived.BigQuiet
namespace Go.Proofs.YtggnfkdeakkpaaaDoor
open Go Go.RowKit
attribute [local go_sem ↓] Go.wp_at_zero Go.wp_at_succ

theorem slot_at {w : World} {h : HG} {D : DG} (r : RdG w h D) (hn : h.n = 4) : ∃ b off, h.a = some ⟨b, off, none⟩ ∧ b < w.heap.size ∧ ∀ i, i < 4 → w.cell? ⟨b, off + i, none⟩ = some (.string (D.S.getD i ⟨#[]⟩)) := by
  have hl := r.len
  obtain ⟨_, hc⟩ := r.2
  obtain ⟨b, off, e, hb, hcc⟩ := hc (by omega)
  exact ⟨b, off, e, hb, fun i hi => by rw [hcc i (by omega)]; exact map_get _ _ _ _ (by omega)⟩
theorem okG_fit {D : DG} (h : okG D = true) : FitG D := by
  obtain ⟨_, _, h3, h4⟩ := okG_parts h
  exact ⟨by omega, fun s hs => by have := h4 s hs; omega⟩
theorem getD_set (l : List ByteArray) (k i : Nat) (d : ByteArray) (hk : k < l.length) : (l.set k d).getD i ⟨#[]⟩ = if i = k then d else l.getD i ⟨#[]⟩ := by
  rw [List.getD_eq_getElem?_getD, List.getD_eq_getElem?_getD, List.getElem?_set]
  by_cases h : k = i
  · subst h; simp [hk]
  · rw [if_neg h, if_neg (fun e => h e.symm)]
set_option maxRecDepth 100000 in
set_option maxHeartbeats 16000000 in
theorem law_FnPage (a : Option Addr) (n c : Nat) (zs : List Int) (a' : Option Addr) (n' c' : Nat) (zs' : List Int) (w : World) (hr : RdV w a n (zs.map (Value.int .u8))) (hz : ∀ z ∈ zs, 0 ≤ z ∧ z < 256) (hr' : RdV w a' n' (zs'.map (Value.int .u8))) (hz' : ∀ z ∈ zs', 0 ≤ z ∧ z < 256) (ht : TabH w) :
    Calls Tryd.prog 3 #[.slice a n c, .slice a' n' c'] w fun e w' => e = .returned (.bool true) ∧ Below w.heap.size w w' := by
  have R : Hid (RdV w a n (zs.map (Value.int .u8))) := hr
  have R' : Hid (RdV w a' n' (zs'.map (Value.int .u8))) := hr'
  have HZ : Hid (∀ z ∈ zs, 0 ≤ z ∧ z < 256) := hz
  have HZ' : Hid (∀ z ∈ zs', 0 ≤ z ∧ z < 256) := hz'
  have HT : Hid (TabH w) := ht
  clear hr hr' hz hz' ht
  go_enter Tryd.func3, Tryd.ntmps3
  by_cases h1 : 1048576 < n
  · have c1 : (1048576 : Int) < (n : Int) := by omega
    go_wp2
    go_ret
    exact ⟨rfl, Below.refl _ _⟩
  have c1 : ¬ (1048576 : Int) < (n : Int) := by omega
  by_cases h2 : 1048576 < n'
  · have c2 : (1048576 : Int) < (n' : Int) := by omega
    go_wp2
    go_ret
    exact ⟨rfl, Below.refl _ _⟩
  have c2 : ¬ (1048576 : Int) < (n' : Int) := by omega
  have BW : Hid (Below w.heap.size w w) := Below.refl _ _
  go_wp2_with fail
  refine (c_pageDraw a n c zs w R.out HZ.out (by omega)).mono ?_
  rintro e w1 ⟨⟨h5, D, rfl, hok, oo⟩, hb⟩
  have HOK : Hid (okG D = true) := hok
  obtain ⟨w2, hq⟩ : ∃ Q, w1.alloc (.cells #[.int .i64 h5.l, .slice h5.a h5.n h5.c] 25) = Q := ⟨_, rfl⟩
  have hb2 : Below w1.heap.size w1 w2 := by rw [← hq]; exact (Below.refl _ _).alloc (Nat.le_refl _) _
  clear BW
  have BW : Hid (Below w.heap.size w w2) := hb.trans (hb2.mono hb.size)
  have PX : Hid (Box w2 w1.heap.size 25 #[.int .i64 h5.l, .slice h5.a h5.n h5.c]) := by unfold Hid; rw [← hq]; exact Box.new _ _ _
  have PR : Hid (RdG w2 h5 D) := (oo.below hb2).rd
  have PS : Hid (SrcG h5) := oo.src
  obtain ⟨hD1, hD2, hD3, hD4⟩ := okG_parts hok
  have hn5 : h5.n = 4 := by have := PR.out.len; omega
  have HF : Hid (FitG D) := okG_fit hok
  have CU : Hid (∀ (W : World) (h : HG) (E : DG), RdG W h E → okG E = true → Calls Tryd.prog 9 #[.agg #[.int .i64 h.l, .slice h.a h.n h.c]] W fun e w' => e = .returned (.tuple #[.int .i64 (usedR E), .int .i64 0]) ∧ Below W.heap.size W w') := fun W h E r he => by
    have := c_implUsed h E W r (okG_fit he)
    rw [(used_yes he).2] at this
    exact this
  obtain ⟨U, hU⟩ : ∃ U, usedR D = U := ⟨_, rfl⟩
  have hU0 : 0 ≤ U ∧ U ≤ 4 := by rw [← hU, (used_yes hok).1]; have := cntS_le D.S 4; omega
  have sU : IntKind.i64.wrap (U + 1) = U + 1 := by simp [IntKind.wrap_i64]; omega
  have IF : Hid ((insC D freshT = 7 ∧ insK D freshT = 0 ∧ insR D freshT = D ∧ U = 4) ∨ ∃ k : Nat, k < 4 ∧ insC D freshT = 0 ∧ insK D freshT = (k : Int) ∧ insR D freshT = ⟨D.L, D.S.set k freshT⟩ ∧ (D.S.getD k ⟨#[]⟩).toList = [] ∧ U ≠ 4 ∧ usedR ⟨D.L, D.S.set k freshT⟩ = U + 1 ∧ usedC ⟨D.L, D.S.set k freshT⟩ = 0) := by
    have := ins_facts hok
    rw [hU] at this
    exact this
  have HU : Hid (usedR D = U) := hU
  have HN5 : Hid (h5.n = 4) := hn5
  have HDB : Hid (0 ≤ D.L ∧ D.L ≤ 1000 ∧ D.S.length = 4) := ⟨hD1, hD2, hD3⟩
  clear hb hb2 oo hU hn5 hD1 hD2 hD3 hD4 hU0
  rcases IF.out with ⟨e1, e2, e3, e4⟩ | ⟨k, hk, e1, e2, e3, e4, e5, e6, e7⟩
  · have CI : Hid (∀ (W : World), RdG W h5 D → Calls Tryd.prog 7 #[.agg #[.int .i64 h5.l, .slice h5.a h5.n h5.c], .string ⟨#[102, 114, 101, 115, 104]⟩] W fun e w' => (∃ h' : HG, e = .returned (.tuple #[.agg #[.int .i64 h'.l, .slice h'.a h'.n h'.c], .int .i64 0, .int .i64 7]) ∧ OwnG w' W.heap.size w'.heap.size h' D) ∧ Below W.heap.size W w') := fun W r => by
      have := c_implIns h5 D freshT W r PS.out HF.out (by decide)
      rw [e1, e2, e3] at this
      exact this
    have CS : Hid (∀ (W : World), RdG W h5 D → Calls Tryd.prog 8 #[.agg #[.int .i64 h5.l, .slice h5.a h5.n h5.c], .string ⟨#[102, 114, 101, 115, 104]⟩] W fun e w' => (∃ h' : HG, e = .returned (.tuple #[.agg #[.int .i64 h'.l, .slice h'.a h'.n h'.c], .int .i64 0, .int .i64 7]) ∧ OwnG w' W.heap.size w'.heap.size h' D) ∧ Below W.heap.size W w') := fun W r => by
      have := c_specIns h5 D freshT W r PS.out HF.out (by decide)
      rw [e1, e2, e3] at this
      exact this
    subst e4
    clear e1 e2 e3 IF hok
    obtain ⟨P0, P1⟩ := box2 PX.out
    go_wp2_with fail
    refine (CI.out w2 PR.out).mono ?_
    rintro e wa1 ⟨⟨h6, rfl, oo⟩, hb⟩
    obtain ⟨wb1, hq1⟩ : ∃ Q, wa1.alloc (.cells #[.int .i64 h6.l, .slice h6.a h6.n h6.c] 25) = Q := ⟨_, rfl⟩
    have hb2 : Below wa1.heap.size wa1 wb1 := by rw [← hq1]; exact (Below.refl _ _).alloc (Nat.le_refl _) _
    have hb3 := hb.trans (hb2.mono hb.size)
    clear P0 P1
    have NPX : Hid (Box wb1 w1.heap.size 25 #[.int .i64 h5.l, .slice h5.a h5.n h5.c]) := PX.out.belowS hb3
    have NPR : Hid (RdG wb1 h5 D) := PR.out.below hb3
    have NBW : Hid (Below w.heap.size w wb1) := BW.out.trans (hb3.mono BW.out.size)
    clear PX PR BW
    have PX := NPX
    have PR := NPR
    have BW := NBW
    clear NPX NPR NBW
    have QX : Hid (Box wb1 wa1.heap.size 25 #[.int .i64 h6.l, .slice h6.a h6.n h6.c]) := by unfold Hid; rw [← hq1]; exact Box.new _ _ _
    have QR : Hid (RdG wb1 h6 D) := (oo.below hb2).rd
    have QS : Hid (SrcG h6) := oo.src
    clear hb hb2 hb3 oo
    clear hq
    obtain ⟨P0, P1⟩ := box2 PX.out
    go_wp2_with fail
    refine (CS.out wb1 PR.out).mono ?_
    rintro e wa2 ⟨⟨h9, rfl, oo⟩, hb⟩
    obtain ⟨wb2, hq2⟩ : ∃ Q, wa2.alloc (.cells #[.int .i64 h9.l, .slice h9.a h9.n h9.c] 25) = Q := ⟨_, rfl⟩
    have hb2 : Below wa2.heap.size wa2 wb2 := by rw [← hq2]; exact (Below.refl _ _).alloc (Nat.le_refl _) _
    have hb3 := hb.trans (hb2.mono hb.size)
    clear P0 P1
    have NPX : Hid (Box wb2 w1.heap.size 25 #[.int .i64 h5.l, .slice h5.a h5.n h5.c]) := PX.out.belowS hb3
    have NPR : Hid (RdG wb2 h5 D) := PR.out.below hb3
    have NQX : Hid (Box wb2 wa1.heap.size 25 #[.int .i64 h6.l, .slice h6.a h6.n h6.c]) := QX.out.belowS hb3
    have NQR : Hid (RdG wb2 h6 D) := QR.out.below hb3
    have NBW : Hid (Below w.heap.size w wb2) := BW.out.trans (hb3.mono BW.out.size)
    clear PX QX PR QR BW
    have PX := NPX
    have QX := NQX
    have PR := NPR
    have QR := NQR
    have BW := NBW
    clear NPX NQX NPR NQR NBW
    have TX : Hid (Box wb2 wa2.heap.size 25 #[.int .i64 h9.l, .slice h9.a h9.n h9.c]) := by unfold Hid; rw [← hq2]; exact Box.new _ _ _
    have TR : Hid (RdG wb2 h9 D) := (oo.below hb2).rd
    have TS : Hid (SrcG h9) := oo.src
    clear hb hb2 hb3 oo
    have CUP := CU.out wb2 h5 D PR.out HOK.out
    rw [HU.out] at CUP
    obtain ⟨P0, P1⟩ := box2 PX.out
    go_wp2_with fail
    refine (CUP).mono ?_
    rintro e wa3 ⟨rfl, hb⟩
    clear P0 P1
    clear CUP
    have NPX : Hid (Box wa3 w1.heap.size 25 #[.int .i64 h5.l, .slice h5.a h5.n h5.c]) := PX.out.belowS hb
    have NPR : Hid (RdG wa3 h5 D) := PR.out.below hb
    have NQX : Hid (Box wa3 wa1.heap.size 25 #[.int .i64 h6.l, .slice h6.a h6.n h6.c]) := QX.out.belowS hb
    have NQR : Hid (RdG wa3 h6 D) := QR.out.below hb
    have NTX : Hid (Box wa3 wa2.heap.size 25 #[.int .i64 h9.l, .slice h9.a h9.n h9.c]) := TX.out.belowS hb
    have NTR : Hid (RdG wa3 h9 D) := TR.out.below hb
    have NBW : Hid (Below w.heap.size w wa3) := BW.out.trans (hb.mono BW.out.size)
    clear PX QX TX PR QR TR BW
    have PX := NPX
    have QX := NQX
    have TX := NTX
    have PR := NPR
    have QR := NQR
    have TR := NTR
    have BW := NBW
    clear NPX NQX NTX NPR NQR NTR NBW
    clear hb
    go_wp2_with fail
    refine (c_atG a' n' c' zs' 0 4 wa3 (R'.out.below BW.out) HZ'.out (by omega) (by omega) (by omega)).mono ?_
    rintro e wx ⟨⟨sl, rfl, hsl⟩, q, rfl⟩
    obtain ⟨wd, hwd⟩ : ∃ Q, wa3.drewN q = Q := ⟨_, rfl⟩
    have hb : Below wa3.heap.size wa3 wd := by rw [← hwd]; exact below_drewN (Below.refl _ _) q
    rw [hwd]
    clear QX QR QS TX TR TS
    have NPX : Hid (Box wd w1.heap.size 25 #[.int .i64 h5.l, .slice h5.a h5.n h5.c]) := PX.out.belowS hb
    have NPR : Hid (RdG wd h5 D) := PR.out.below hb
    have NBW : Hid (Below w.heap.size w wd) := BW.out.trans (hb.mono BW.out.size)
    clear PX PR BW
    have PX := NPX
    have PR := NPR
    have BW := NBW
    clear NPX NPR NBW
    clear hb hwd
    obtain ⟨D2, hD2⟩ : ∃ E : DG, (⟨77, D.S.set sl setT⟩ : DG) = E := ⟨_, rfl⟩
    have HK2 : Hid (okG D2 = true) := by unfold Hid; rw [← hD2]; exact okG_set HOK.out sl setT 77 (by decide) (by omega)
    have HG2 : Hid (D2.L = 77 ∧ D2.S.length = 4 ∧ ∀ i, i < 4 → D2.S.getD i ⟨#[]⟩ = if i = sl then setT else D.S.getD i ⟨#[]⟩) := by
      unfold Hid
      rw [← hD2]
      exact ⟨rfl, by have := HDB.out.2.2; simpa using this, fun i _ => getD_set _ _ _ _ (by rw [HDB.out.2.2]; exact hsl)⟩
    have CT : Hid (∀ (W : World), RdG W h5 D → Calls Tryd.prog 11 #[.agg #[.int .i64 h5.l, .slice h5.a h5.n h5.c], .int .i64 (sl : Int), .string ⟨#[115, 101, 116]⟩, .int .i64 77] W fun e w' => (∃ h' : HG, e = .returned (.tuple #[.agg #[.int .i64 h'.l, .slice h'.a h'.n h'.c], .int .i64 0]) ∧ OwnG w' W.heap.size w'.heap.size h' D2) ∧ Below W.heap.size W w') := fun W r => by
      have := c_implSet h5 D (sl : Int) setT 77 W r PS.out HF.out (by decide)
      obtain ⟨f1, f2⟩ := set0 (D := D) (sl := (sl : Int)) (d := setT) (l := 77) (by decide) HOK.out (by unfold setOK; rw [show inB (sl : Int) 0 3 = true by unfold inB; exact decide_eq_true (by omega)]; decide)
      rw [f1, f2] at this
      rw [← hD2]
      exact this
    clear hD2
    obtain ⟨P0, P1⟩ := box2 PX.out
    go_wp2_with fail
    refine (CT.out wd PR.out).mono ?_
    rintro e wa4 ⟨⟨h17, rfl, oo⟩, hb⟩
    obtain ⟨wb4, hq4⟩ : ∃ Q, wa4.alloc (.cells #[.int .i64 h17.l, .slice h17.a h17.n h17.c] 25) = Q := ⟨_, rfl⟩
    have hb2 : Below wa4.heap.size wa4 wb4 := by rw [← hq4]; exact (Below.refl _ _).alloc (Nat.le_refl _) _
    have hb3 := hb.trans (hb2.mono hb.size)
    clear P0 P1
    have NPX : Hid (Box wb4 w1.heap.size 25 #[.int .i64 h5.l, .slice h5.a h5.n h5.c]) := PX.out.belowS hb3
    have NPR : Hid (RdG wb4 h5 D) := PR.out.below hb3
    have NBW : Hid (Below w.heap.size w wb4) := BW.out.trans (hb3.mono BW.out.size)
    clear PX PR BW
    have PX := NPX
    have PR := NPR
    have BW := NBW
    clear NPX NPR NBW
    have SX : Hid (Box wb4 wa4.heap.size 25 #[.int .i64 h17.l, .slice h17.a h17.n h17.c]) := by unfold Hid; rw [← hq4]; exact Box.new _ _ _
    have SR : Hid (RdG wb4 h17 D2) := (oo.below hb2).rd
    have SS : Hid (SrcG h17) := oo.src
    clear hb hb2 hb3 oo
    have HN17 : Hid (h17.n = 4) := by have h0 := SR.out.len; have h9 := HG2.out.2.1; unfold Hid; omega
    have nl : (h17.l != 77) = false := by rw [SR.out.1, HG2.out.1]; rfl
    have nn : ((h17.n : Int) != 4) = false := by rw [HN17.out]; rfl
    obtain ⟨s0, s1⟩ := box2 SX.out
    go_wp2
    clear s0 s1 nl nn
    go_loopw [19] (fun s wr => ∃ i : Nat, i ≤ 4 ∧ s = .int .i64 (i : Int) ∧ Hid (Below wb4.heap.size wb4 wr)) (fun s _ => 4 - (intOf s).toNat)
    case atStart => exact ⟨0, by omega, rfl, Below.refl _ _⟩
    case round =>
      obtain ⟨i, hi, rfl, HB⟩ := hrel
      by_cases hlt : i < 4
      · obtain ⟨s0, s1⟩ := box2 (SX.out.belowS HB.out)
        obtain ⟨p0, p1⟩ := box2 (PX.out.belowS HB.out)
        obtain ⟨b6, o6, a6, l6, c6⟩ := slot_at (SR.out.below HB.out) HN17.out
        obtain ⟨b5, o5, a5, l5, c5⟩ := slot_at (PR.out.below HB.out) HN5.out
        have k6 := c6 i hlt
        have k5 := c5 i hlt
        rw [HG2.out.2.2 i hlt] at k6
        rw [a6, HN17.out] at s1
        rw [a5, HN5.out] at p1
        have ci0 : (0 : Int) ≤ (i : Int) := by omega
        have ci4 : (i : Int) < 4 := by omega
        obtain ⟨x, hx⟩ : ∃ x, D.S.getD i ⟨#[]⟩ = x := ⟨_, rfl⟩
        rw [hx] at k5 k6
        clear c6 c5 a6 a5 hx
        by_cases hs : i = sl
        · rw [if_pos hs] at k6
          unfold setT at k6
          have n1 : ((i : Int) == (sl : Int)) = true := by simp [hs]
          have n2 : ((i : Int) != (sl : Int)) = false := by simp [hs]
          clear hs
          go_wp2_with fail
          go_quiet (fail)
          go_wp2
          go_roundw
          case rel => exact ⟨i + 1, by omega, by go_num, below_drewN HB.out _⟩
          case measure => simp [intOf]; omega
        · rw [if_neg hs] at k6
          have n1 : ((i : Int) == (sl : Int)) = false := by simp; omega
          have n2 : ((i : Int) != (sl : Int)) = true := by simp; omega
          have n3 : (x.toList == x.toList) = true := by simp
          clear hs
          go_wp2_with fail
          go_quiet (fail)
          go_wp2
          go_roundw
          case rel => exact ⟨i + 1, by omega, by go_num, below_drewN HB.out _⟩
          case measure => simp [intOf]; omega
      · have cge : ¬ (i : Int) < 4 := by omega
        rename World => wl
        clear hlt hi
        have NPX : Hid (Box wl w1.heap.size 25 #[.int .i64 h5.l, .slice h5.a h5.n h5.c]) := PX.out.belowS HB.out
        have NPR : Hid (RdG wl h5 D) := PR.out.below HB.out
        have NSX : Hid (Box wl wa4.heap.size 25 #[.int .i64 h17.l, .slice h17.a h17.n h17.c]) := SX.out.belowS HB.out
        have NSR : Hid (RdG wl h17 D2) := SR.out.below HB.out
        have NBW : Hid (Below w.heap.size w wl) := BW.out.trans (HB.out.mono BW.out.size)
        clear PX SX PR SR BW
        have PX := NPX
        have SX := NSX
        have PR := NPR
        have SR := NSR
        have BW := NBW
        clear NPX NSX NPR NSR NBW
        obtain ⟨f1, f2, f3, f4, f5, f6, f7⟩ := pb_read HK2.out
        obtain ⟨Z, hZ⟩ : ∃ Z, pbR D2 5 = Z := ⟨_, rfl⟩
        rw [hZ] at f2 f3 f4 f5 f6 f7
        have HZZ : Hid (∀ z ∈ Z, 0 ≤ z ∧ z < 256) := f3
        have lZ : Z.length ≤ 160 := f2
        have HF2 : Hid (FitG D2) := okG_fit HK2.out
        have CB : Hid (∀ (W : World) (h : HG), Below w.heap.size w W → RdG W h D2 → Calls Tryd.prog 12 #[.int .i64 5, .agg #[.int .i64 h.l, .slice h.a h.n h.c]] W fun e w' => (∃ ha hc, e = .returned (.tuple #[.slice ha Z.length hc, .int .i64 0]) ∧ w'.ownsRow W.heap.size 5 1 (.slice ha Z.length hc) Z.length (Z.map (Value.int .u8))) ∧ Below W.heap.size W w') := fun W h hW r => by
          have := c_implPB h D2 5 W r HF2.out (HT.out.below hW)
          rw [f1, hZ] at this
          exact this
        have CBS : Hid (∀ (W : World) (h : HG), RdG W h D2 → Calls Tryd.prog 13 #[.int .i64 5, .agg #[.int .i64 h.l, .slice h.a h.n h.c]] W fun e w' => (∃ ha hc, e = .returned (.tuple #[.slice ha Z.length hc, .int .i64 0]) ∧ w'.ownsRow W.heap.size 5 1 (.slice ha Z.length hc) Z.length (Z.map (Value.int .u8))) ∧ Below W.heap.size W w') := fun W h r => by
          have := c_specPB h D2 5 W r HF2.out
          rw [f1, hZ] at this
          exact this
        have CR5 : Hid (∀ (W : World) (ba : Option Addr) (bc : Nat), Below w.heap.size w W → RdV W ba Z.length (Z.map (Value.int .u8)) → Z.length ≤ bc → Calls Tryd.prog 14 #[.int .i64 5, .slice ba Z.length bc] W fun e w' => (∃ h' : HG, e = .returned (.tuple #[.agg #[.int .i64 h'.l, .slice h'.a h'.n h'.c], .int .i64 0]) ∧ OwnG w' W.heap.size w'.heap.size h' D2) ∧ Below W.heap.size W w') := fun W ba bc hW r k1 => by
          have := c_implRP 5 ba Z.length bc Z W r HZZ.out (by omega) k1 (HT.out.below hW)
          rw [f4, f5] at this
          exact this
        have CR6 : Hid (∀ (W : World) (ba : Option Addr) (bc : Nat), Below w.heap.size w W → RdV W ba Z.length (Z.map (Value.int .u8)) → Z.length ≤ bc → Calls Tryd.prog 14 #[.int .i64 6, .slice ba Z.length bc] W fun e w' => (∃ h' : HG, e = .returned (.tuple #[.agg #[.int .i64 h'.l, .slice h'.a h'.n h'.c], .int .i64 3]) ∧ OwnG w' W.heap.size w'.heap.size h' ⟨0, []⟩) ∧ Below W.heap.size W w') := fun W ba bc hW r k1 => by
          have := c_implRP 6 ba Z.length bc Z W r HZZ.out (by omega) k1 (HT.out.below hW)
          rw [f6, f7] at this
          exact this
        clear f1 f2 f3 f4 f5 f6 f7 hZ HB
        obtain ⟨S0, S1⟩ := box2 SX.out
        go_wp2_with fail
        refine (CB.out wl h17 BW.out SR.out).mono ?_
        rintro e wa15 ⟨⟨ba, bc, rfl, ob1⟩, hb⟩
        clear S0 S1
        obtain ⟨cap1, _⟩ := own_cap ob1
        have RB : Hid (RdV wa15 ba Z.length (Z.map (Value.int .u8))) := RdV.own ob1
        clear ob1
        have NPX : Hid (Box wa15 w1.heap.size 25 #[.int .i64 h5.l, .slice h5.a h5.n h5.c]) := PX.out.belowS hb
        have NPR : Hid (RdG wa15 h5 D) := PR.out.below hb
        have NSX : Hid (Box wa15 wa4.heap.size 25 #[.int .i64 h17.l, .slice h17.a h17.n h17.c]) := SX.out.belowS hb
        have NSR : Hid (RdG wa15 h17 D2) := SR.out.below hb
        have NBW : Hid (Below w.heap.size w wa15) := BW.out.trans (hb.mono BW.out.size)
        clear PX SX PR SR BW
        have PX := NPX
        have SX := NSX
        have PR := NPR
        have SR := NSR
        have BW := NBW
        clear NPX NSX NPR NSR NBW
        clear hb
        obtain ⟨S0, S1⟩ := box2 SX.out
        go_wp2_with fail
        refine (CBS.out wa15 h17 SR.out).mono ?_
        rintro e wa16 ⟨⟨ca, cc, rfl, oc1⟩, hb⟩
        clear S0 S1
        have RC : Hid (RdV wa16 ca Z.length (Z.map (Value.int .u8))) := RdV.own oc1
        clear oc1
        have NPX : Hid (Box wa16 w1.heap.size 25 #[.int .i64 h5.l, .slice h5.a h5.n h5.c]) := PX.out.belowS hb
        have NPR : Hid (RdG wa16 h5 D) := PR.out.below hb
        have NSX : Hid (Box wa16 wa4.heap.size 25 #[.int .i64 h17.l, .slice h17.a h17.n h17.c]) := SX.out.belowS hb
        have NSR : Hid (RdG wa16 h17 D2) := SR.out.below hb
        have NRB : Hid (RdV wa16 ba Z.length (Z.map (Value.int .u8))) := RB.out.below hb
        have NBW : Hid (Below w.heap.size w wa16) := BW.out.trans (hb.mono BW.out.size)
        clear PX SX PR SR RB BW
        have PX := NPX
        have SX := NSX
        have PR := NPR
        have SR := NSR
        have RB := NRB
        have BW := NBW
        clear NPX NSX NPR NSR NRB NBW
        clear hb
        go_wp2_with fail
        refine (CR5.out wa16 ba bc BW.out RB.out cap1).mono ?_
        rintro e wa17 ⟨⟨h24, rfl, oo⟩, hb⟩
        obtain ⟨wb17, hq17⟩ : ∃ Q, wa17.alloc (.cells #[.int .i64 h24.l, .slice h24.a h24.n h24.c] 25) = Q := ⟨_, rfl⟩
        have hb2 : Below wa17.heap.size wa17 wb17 := by rw [← hq17]; exact (Below.refl _ _).alloc (Nat.le_refl _) _
        have hb3 := hb.trans (hb2.mono hb.size)
        have NPX : Hid (Box wb17 w1.heap.size 25 #[.int .i64 h5.l, .slice h5.a h5.n h5.c]) := PX.out.belowS hb3
        have NPR : Hid (RdG wb17 h5 D) := PR.out.below hb3
        have NSX : Hid (Box wb17 wa4.heap.size 25 #[.int .i64 h17.l, .slice h17.a h17.n h17.c]) := SX.out.belowS hb3
        have NSR : Hid (RdG wb17 h17 D2) := SR.out.below hb3
        have NRB : Hid (RdV wb17 ba Z.length (Z.map (Value.int .u8))) := RB.out.below hb3
        have NRC : Hid (RdV wb17 ca Z.length (Z.map (Value.int .u8))) := RC.out.below hb3
        have NBW : Hid (Below w.heap.size w wb17) := BW.out.trans (hb3.mono BW.out.size)
        clear PX SX PR SR RB RC BW
        have PX := NPX
        have SX := NSX
        have PR := NPR
        have SR := NSR
        have RB := NRB
        have RC := NRC
        have BW := NBW
        clear NPX NSX NPR NSR NRB NRC NBW
        have KX : Hid (Box wb17 wa17.heap.size 25 #[.int .i64 h24.l, .slice h24.a h24.n h24.c]) := by unfold Hid; rw [← hq17]; exact Box.new _ _ _
        have KR : Hid (RdG wb17 h24 D2) := (oo.below hb2).rd
        have KS : Hid (SrcG h24) := oo.src
        clear hb hb2 hb3 oo
        go_wp2_with fail
        refine (CR6.out wb17 ba bc BW.out RB.out cap1).mono ?_
        rintro e wa18 ⟨⟨h26, rfl, oo⟩, hb⟩
        obtain ⟨wb18, hq18⟩ : ∃ Q, wa18.alloc (.cells #[.int .i64 h26.l, .slice h26.a h26.n h26.c] 25) = Q := ⟨_, rfl⟩
        have hb2 : Below wa18.heap.size wa18 wb18 := by rw [← hq18]; exact (Below.refl _ _).alloc (Nat.le_refl _) _
        have hb3 := hb.trans (hb2.mono hb.size)
        have NPX : Hid (Box wb18 w1.heap.size 25 #[.int .i64 h5.l, .slice h5.a h5.n h5.c]) := PX.out.belowS hb3
        have NPR : Hid (RdG wb18 h5 D) := PR.out.below hb3
        have NSX : Hid (Box wb18 wa4.heap.size 25 #[.int .i64 h17.l, .slice h17.a h17.n h17.c]) := SX.out.belowS hb3
        have NSR : Hid (RdG wb18 h17 D2) := SR.out.below hb3
        have NKX : Hid (Box wb18 wa17.heap.size 25 #[.int .i64 h24.l, .slice h24.a h24.n h24.c]) := KX.out.belowS hb3
        have NKR : Hid (RdG wb18 h24 D2) := KR.out.below hb3
        have NRB : Hid (RdV wb18 ba Z.length (Z.map (Value.int .u8))) := RB.out.below hb3
        have NRC : Hid (RdV wb18 ca Z.length (Z.map (Value.int .u8))) := RC.out.below hb3
        have NBW : Hid (Below w.heap.size w wb18) := BW.out.trans (hb3.mono BW.out.size)
        clear PX SX KX PR SR KR RB RC BW
        have PX := NPX
        have SX := NSX
        have KX := NKX
        have PR := NPR
        have SR := NSR
        have KR := NKR
        have RB := NRB
        have RC := NRC
        have BW := NBW
        clear NPX NSX NKX NPR NSR NKR NRB NRC NBW
        have MX : Hid (Box wb18 wa18.heap.size 25 #[.int .i64 h26.l, .slice h26.a h26.n h26.c]) := by unfold Hid; rw [← hq18]; exact Box.new _ _ _
        have MR : Hid (RdG wb18 h26 ⟨0, []⟩) := (oo.below hb2).rd
        have MS : Hid (SrcG h26) := oo.src
        clear hb hb2 hb3 oo
        obtain ⟨X, hX⟩ : ∃ X, X = strOfNums Z := ⟨_, rfl⟩
        have cv1 : (convert 22 9 (.slice ba Z.length bc)).run Tryd.prog wb18 = .ok (.string X) wb18 := by rw [hX]; exact conv8 RB.out
        have cv2 : (convert 22 9 (.slice ca Z.length cc)).run Tryd.prog wb18 = .ok (.string X) wb18 := by rw [hX]; exact conv8 RC.out
        have nx : (X.toList == X.toList) = true := by simp
        have cl : (Z.length : Int) ≤ 160 := by omega
        clear hX MX MR MS
        clear RB RC
        obtain ⟨K0, K1⟩ := box2 KX.out
        obtain ⟨S0, S1⟩ := box2 SX.out
        go_wp2_with fail
        refine (c_samePage h24 h17 D2 wb18 KR.out SR.out HF2.out).mono ?_
        rintro e wa19 ⟨rfl, hb⟩
        clear K0 K1 S0 S1
        clear cv1 cv2 nx cl
        have NPX : Hid (Box wa19 w1.heap.size 25 #[.int .i64 h5.l, .slice h5.a h5.n h5.c]) := PX.out.belowS hb
        have NPR : Hid (RdG wa19 h5 D) := PR.out.below hb
        have NSX : Hid (Box wa19 wa4.heap.size 25 #[.int .i64 h17.l, .slice h17.a h17.n h17.c]) := SX.out.belowS hb
        have NSR : Hid (RdG wa19 h17 D2) := SR.out.below hb
        have NKX : Hid (Box wa19 wa17.heap.size 25 #[.int .i64 h24.l, .slice h24.a h24.n h24.c]) := KX.out.belowS hb
        have NKR : Hid (RdG wa19 h24 D2) := KR.out.below hb
        have NBW : Hid (Below w.heap.size w wa19) := BW.out.trans (hb.mono BW.out.size)
        clear PX SX KX PR SR KR BW
        have PX := NPX
        have SX := NSX
        have KX := NKX
        have PR := NPR
        have SR := NSR
        have KR := NKR
        have BW := NBW
        clear NPX NSX NKX NPR NSR NKR NBW
        clear hb
        have COK := c_implOK h17 D2 wa19 SR.out HF2.out
        rw [HK2.out] at COK
        obtain ⟨S0, S1⟩ := box2 SX.out
        go_wp2_with fail
        refine (COK).mono ?_
        rintro e wa20 ⟨rfl, hb⟩
        clear S0 S1
        clear COK
        have NPX : Hid (Box wa20 w1.heap.size 25 #[.int .i64 h5.l, .slice h5.a h5.n h5.c]) := PX.out.belowS hb
        have NPR : Hid (RdG wa20 h5 D) := PR.out.below hb
        have NSX : Hid (Box wa20 wa4.heap.size 25 #[.int .i64 h17.l, .slice h17.a h17.n h17.c]) := SX.out.belowS hb
        have NSR : Hid (RdG wa20 h17 D2) := SR.out.below hb
        have NKX : Hid (Box wa20 wa17.heap.size 25 #[.int .i64 h24.l, .slice h24.a h24.n h24.c]) := KX.out.belowS hb
        have NKR : Hid (RdG wa20 h24 D2) := KR.out.below hb
        have NBW : Hid (Below w.heap.size w wa20) := BW.out.trans (hb.mono BW.out.size)
        clear PX SX KX PR SR KR BW
        have PX := NPX
        have SX := NSX
        have KX := NKX
        have PR := NPR
        have SR := NSR
        have KR := NKR
        have BW := NBW
        clear NPX NSX NKX NPR NSR NKR NBW
        clear hb
        go_wp2_with fail
        refine (c_implNew wa20).mono ?_
        rintro e wy ⟨⟨hy, rfl, oy⟩, hb⟩
        have BW2 : Hid (Below w.heap.size w wy) := BW.out.trans (hb.mono BW.out.size)
        have RY : Hid (RdG wy hy newG) := oy.rd
        clear hb oy
        go_wp2_with fail
        refine (c_specNew wy).mono ?_
        rintro e wz ⟨⟨hz2, rfl, oz⟩, hb⟩
        have BW3 : Hid (Below w.heap.size w wz) := BW2.out.trans (hb.mono BW2.out.size)
        have RY2 : Hid (RdG wz hy newG) := RY.out.below hb
        have RZ2 : Hid (RdG wz hz2 newG) := oz.rd
        clear hb oz
        go_wp2_with fail
        refine (c_samePage hy hz2 newG wz RY2.out RZ2.out new_fit).mono ?_
        rintro e wv ⟨rfl, hb⟩
        have BW4 : Hid (Below w.heap.size w wv) := BW3.out.trans (hb.mono BW3.out.size)
        clear hb
        go_wp2
        go_ret
        exact ⟨rfl, BW4.out⟩
  · have CI : Hid (∀ (W : World), RdG W h5 D → Calls Tryd.prog 7 #[.agg #[.int .i64 h5.l, .slice h5.a h5.n h5.c], .string ⟨#[102, 114, 101, 115, 104]⟩] W fun e w' => (∃ h' : HG, e = .returned (.tuple #[.agg #[.int .i64 h'.l, .slice h'.a h'.n h'.c], .int .i64 (k : Int), .int .i64 0]) ∧ OwnG w' W.heap.size w'.heap.size h' ⟨D.L, D.S.set k freshT⟩) ∧ Below W.heap.size W w') := fun W r => by
      have := c_implIns h5 D freshT W r PS.out HF.out (by decide)
      rw [e1, e2, e3] at this
      exact this
    have CS : Hid (∀ (W : World), RdG W h5 D → Calls Tryd.prog 8 #[.agg #[.int .i64 h5.l, .slice h5.a h5.n h5.c], .string ⟨#[102, 114, 101, 115, 104]⟩] W fun e w' => (∃ h' : HG, e = .returned (.tuple #[.agg #[.int .i64 h'.l, .slice h'.a h'.n h'.c], .int .i64 (k : Int), .int .i64 0]) ∧ OwnG w' W.heap.size w'.heap.size h' ⟨D.L, D.S.set k freshT⟩) ∧ Below W.heap.size W w') := fun W r => by
      have := c_specIns h5 D freshT W r PS.out HF.out (by decide)
      rw [e1, e2, e3] at this
      exact this
    have n4 : (U == 4) = false := by simpa using e5
    have nkk : ((k : Int) != (k : Int)) = false := by simp
    have HE6 : Hid (usedR ⟨D.L, D.S.set k freshT⟩ = U + 1) := e6
    have HE4 : Hid (D.S.getD k ⟨#[]⟩ = ⟨#[]⟩) := toList_inj (by rw [e4, ByteArray.toList_eq])
    have HQ : Hid (okG ⟨D.L, D.S.set k freshT⟩ = true) := okG_set hok k freshT D.L (by decide) ⟨HDB.out.1, HDB.out.2.1⟩
    have nuu : ((U + 1) != (U + 1)) = false := by simp
    clear e1 e2 e3 e4 e5 e6 e7 IF hok
    obtain ⟨P0, P1⟩ := box2 PX.out
    go_wp2_with fail
    refine (CI.out w2 PR.out).mono ?_
    rintro e wa1 ⟨⟨h6, rfl, oo⟩, hb⟩
    obtain ⟨wb1, hq1⟩ : ∃ Q, wa1.alloc (.cells #[.int .i64 h6.l, .slice h6.a h6.n h6.c] 25) = Q := ⟨_, rfl⟩
    have hb2 : Below wa1.heap.size wa1 wb1 := by rw [← hq1]; exact (Below.refl _ _).alloc (Nat.le_refl _) _
    have hb3 := hb.trans (hb2.mono hb.size)
    clear P0 P1
    have NPX : Hid (Box wb1 w1.heap.size 25 #[.int .i64 h5.l, .slice h5.a h5.n h5.c]) := PX.out.belowS hb3
    have NPR : Hid (RdG wb1 h5 D) := PR.out.below hb3
    have NBW : Hid (Below w.heap.size w wb1) := BW.out.trans (hb3.mono BW.out.size)
    clear PX PR BW
    have PX := NPX
    have PR := NPR
    have BW := NBW
    clear NPX NPR NBW
    have QX : Hid (Box wb1 wa1.heap.size 25 #[.int .i64 h6.l, .slice h6.a h6.n h6.c]) := by unfold Hid; rw [← hq1]; exact Box.new _ _ _
    have QR : Hid (RdG wb1 h6 ⟨D.L, D.S.set k freshT⟩) := (oo.below hb2).rd
    have QS : Hid (SrcG h6) := oo.src
    clear hb hb2 hb3 oo
    clear hq
    obtain ⟨P0, P1⟩ := box2 PX.out
    go_wp2_with fail
    refine (CS.out wb1 PR.out).mono ?_
    rintro e wa2 ⟨⟨h9, rfl, oo⟩, hb⟩
    obtain ⟨wb2, hq2⟩ : ∃ Q, wa2.alloc (.cells #[.int .i64 h9.l, .slice h9.a h9.n h9.c] 25) = Q := ⟨_, rfl⟩
    have hb2 : Below wa2.heap.size wa2 wb2 := by rw [← hq2]; exact (Below.refl _ _).alloc (Nat.le_refl _) _
    have hb3 := hb.trans (hb2.mono hb.size)
    clear P0 P1
    have NPX : Hid (Box wb2 w1.heap.size 25 #[.int .i64 h5.l, .slice h5.a h5.n h5.c]) := PX.out.belowS hb3
    have NPR : Hid (RdG wb2 h5 D) := PR.out.below hb3
    have NQX : Hid (Box wb2 wa1.heap.size 25 #[.int .i64 h6.l, .slice h6.a h6.n h6.c]) := QX.out.belowS hb3
    have NQR : Hid (RdG wb2 h6 ⟨D.L, D.S.set k freshT⟩) := QR.out.below hb3
    have NBW : Hid (Below w.heap.size w wb2) := BW.out.trans (hb3.mono BW.out.size)
    clear PX QX PR QR BW
    have PX := NPX
    have QX := NQX
    have PR := NPR
    have QR := NQR
    have BW := NBW
    clear NPX NQX NPR NQR NBW
    have TX : Hid (Box wb2 wa2.heap.size 25 #[.int .i64 h9.l, .slice h9.a h9.n h9.c]) := by unfold Hid; rw [← hq2]; exact Box.new _ _ _
    have TR : Hid (RdG wb2 h9 ⟨D.L, D.S.set k freshT⟩) := (oo.below hb2).rd
    have TS : Hid (SrcG h9) := oo.src
    clear hb hb2 hb3 oo
    have CUP := CU.out wb2 h5 D PR.out HOK.out
    rw [HU.out] at CUP
    obtain ⟨P0, P1⟩ := box2 PX.out
    go_wp2_with fail
    refine (CUP).mono ?_
    rintro e wa3 ⟨rfl, hb⟩
    clear P0 P1
    clear CUP
    have NPX : Hid (Box wa3 w1.heap.size 25 #[.int .i64 h5.l, .slice h5.a h5.n h5.c]) := PX.out.belowS hb
    have NPR : Hid (RdG wa3 h5 D) := PR.out.below hb
    have NQX : Hid (Box wa3 wa1.heap.size 25 #[.int .i64 h6.l, .slice h6.a h6.n h6.c]) := QX.out.belowS hb
    have NQR : Hid (RdG wa3 h6 ⟨D.L, D.S.set k freshT⟩) := QR.out.below hb
    have NTX : Hid (Box wa3 wa2.heap.size 25 #[.int .i64 h9.l, .slice h9.a h9.n h9.c]) := TX.out.belowS hb
    have NTR : Hid (RdG wa3 h9 ⟨D.L, D.S.set k freshT⟩) := TR.out.below hb
    have NBW : Hid (Below w.heap.size w wa3) := BW.out.trans (hb.mono BW.out.size)
    clear PX QX TX PR QR TR BW
    have PX := NPX
    have QX := NQX
    have TX := NTX
    have PR := NPR
    have QR := NQR
    have TR := NTR
    have BW := NBW
    clear NPX NQX NTX NPR NQR NTR NBW
    clear hb
    have CUQ := CU.out wa3 h6 _ QR.out HQ.out
    rw [HE6.out] at CUQ
    obtain ⟨Q0, Q1⟩ := box2 QX.out
    go_wp2_with fail
    refine (CUQ).mono ?_
    rintro e wa4 ⟨rfl, hb⟩
    clear Q0 Q1
    clear CUQ
    have NPX : Hid (Box wa4 w1.heap.size 25 #[.int .i64 h5.l, .slice h5.a h5.n h5.c]) := PX.out.belowS hb
    have NPR : Hid (RdG wa4 h5 D) := PR.out.below hb
    have NQX : Hid (Box wa4 wa1.heap.size 25 #[.int .i64 h6.l, .slice h6.a h6.n h6.c]) := QX.out.belowS hb
    have NQR : Hid (RdG wa4 h6 ⟨D.L, D.S.set k freshT⟩) := QR.out.below hb
    have NTX : Hid (Box wa4 wa2.heap.size 25 #[.int .i64 h9.l, .slice h9.a h9.n h9.c]) := TX.out.belowS hb
    have NTR : Hid (RdG wa4 h9 ⟨D.L, D.S.set k freshT⟩) := TR.out.below hb
    have NBW : Hid (Below w.heap.size w wa4) := BW.out.trans (hb.mono BW.out.size)
    clear PX QX TX PR QR TR BW
    have PX := NPX
    have QX := NQX
    have TX := NTX
    have PR := NPR
    have QR := NQR
    have TR := NTR
    have BW := NBW
    clear NPX NQX NTX NPR NQR NTR NBW
    clear hb
    have hn6 : h6.n = 4 := by have h0 := QR.out.len; have h9 := HDB.out.2.2; simp at h0; omega
    obtain ⟨b6, o6, a6, l6, c6⟩ := slot_at QR.out hn6
    obtain ⟨b5, o5, a5, l5, c5⟩ := slot_at PR.out HN5.out
    have k6 := c6 k hk
    have k5 := c5 k hk
    rw [getD_set _ _ _ _ (by rw [HDB.out.2.2]; exact hk), if_pos rfl] at k6
    rw [HE4.out] at k5
    obtain ⟨q0, q1⟩ := box2 QX.out
    obtain ⟨p0, p1⟩ := box2 PX.out
    rw [a6, hn6] at q1
    rw [a5, HN5.out] at p1
    have ck0 : (0 : Int) ≤ (k : Int) := by omega
    have ck4 : (k : Int) < 4 := by omega
    unfold freshT at k6
    clear c6 c5 a6 a5 hn6
    go_wp2_with fail
    refine (c_atG a' n' c' zs' 0 4 wa4 (R'.out.below BW.out) HZ'.out (by omega) (by omega) (by omega)).mono ?_
    rintro e wx ⟨⟨sl, rfl, hsl⟩, q, rfl⟩
    obtain ⟨wd, hwd⟩ : ∃ Q, wa4.drewN q = Q := ⟨_, rfl⟩
    have hb : Below wa4.heap.size wa4 wd := by rw [← hwd]; exact below_drewN (Below.refl _ _) q
    rw [hwd]
    clear QX QR QS TX TR TS p0 p1 q0 q1 k5 k6 ck0 ck4 l5 l6
    have NPX : Hid (Box wd w1.heap.size 25 #[.int .i64 h5.l, .slice h5.a h5.n h5.c]) := PX.out.belowS hb
    have NPR : Hid (RdG wd h5 D) := PR.out.below hb
    have NBW : Hid (Below w.heap.size w wd) := BW.out.trans (hb.mono BW.out.size)
    clear PX PR BW
    have PX := NPX
    have PR := NPR
    have BW := NBW
    clear NPX NPR NBW
    clear hb hwd
    obtain ⟨D2, hD2⟩ : ∃ E : DG, (⟨77, D.S.set sl setT⟩ : DG) = E := ⟨_, rfl⟩
    have HK2 : Hid (okG D2 = true) := by unfold Hid; rw [← hD2]; exact okG_set HOK.out sl setT 77 (by decide) (by omega)
    have HG2 : Hid (D2.L = 77 ∧ D2.S.length = 4 ∧ ∀ i, i < 4 → D2.S.getD i ⟨#[]⟩ = if i = sl then setT else D.S.getD i ⟨#[]⟩) := by
      unfold Hid
      rw [← hD2]
      exact ⟨rfl, by have := HDB.out.2.2; simpa using this, fun i _ => getD_set _ _ _ _ (by rw [HDB.out.2.2]; exact hsl)⟩
    have CT : Hid (∀ (W : World), RdG W h5 D → Calls Tryd.prog 11 #[.agg #[.int .i64 h5.l, .slice h5.a h5.n h5.c], .int .i64 (sl : Int), .string ⟨#[115, 101, 116]⟩, .int .i64 77] W fun e w' => (∃ h' : HG, e = .returned (.tuple #[.agg #[.int .i64 h'.l, .slice h'.a h'.n h'.c], .int .i64 0]) ∧ OwnG w' W.heap.size w'.heap.size h' D2) ∧ Below W.heap.size W w') := fun W r => by
      have := c_implSet h5 D (sl : Int) setT 77 W r PS.out HF.out (by decide)
      obtain ⟨f1, f2⟩ := set0 (D := D) (sl := (sl : Int)) (d := setT) (l := 77) (by decide) HOK.out (by unfold setOK; rw [show inB (sl : Int) 0 3 = true by unfold inB; exact decide_eq_true (by omega)]; decide)
      rw [f1, f2] at this
      rw [← hD2]
      exact this
    clear hD2
    obtain ⟨P0, P1⟩ := box2 PX.out
    go_wp2_with fail
    refine (CT.out wd PR.out).mono ?_
    rintro e wa5 ⟨⟨h17, rfl, oo⟩, hb⟩
    obtain ⟨wb5, hq5⟩ : ∃ Q, wa5.alloc (.cells #[.int .i64 h17.l, .slice h17.a h17.n h17.c] 25) = Q := ⟨_, rfl⟩
    have hb2 : Below wa5.heap.size wa5 wb5 := by rw [← hq5]; exact (Below.refl _ _).alloc (Nat.le_refl _) _
    have hb3 := hb.trans (hb2.mono hb.size)
    clear P0 P1
    have NPX : Hid (Box wb5 w1.heap.size 25 #[.int .i64 h5.l, .slice h5.a h5.n h5.c]) := PX.out.belowS hb3
    have NPR : Hid (RdG wb5 h5 D) := PR.out.below hb3
    have NBW : Hid (Below w.heap.size w wb5) := BW.out.trans (hb3.mono BW.out.size)
    clear PX PR BW
    have PX := NPX
    have PR := NPR
    have BW := NBW
    clear NPX NPR NBW
    have SX : Hid (Box wb5 wa5.heap.size 25 #[.int .i64 h17.l, .slice h17.a h17.n h17.c]) := by unfold Hid; rw [← hq5]; exact Box.new _ _ _
    have SR : Hid (RdG wb5 h17 D2) := (oo.below hb2).rd
    have SS : Hid (SrcG h17) := oo.src
    clear hb hb2 hb3 oo
    have HN17 : Hid (h17.n = 4) := by have h0 := SR.out.len; have h9 := HG2.out.2.1; unfold Hid; omega
    have nl : (h17.l != 77) = false := by rw [SR.out.1, HG2.out.1]; rfl
    have nn : ((h17.n : Int) != 4) = false := by rw [HN17.out]; rfl
    obtain ⟨s0, s1⟩ := box2 SX.out
    go_wp2
    clear s0 s1 nl nn
    go_loopw [19] (fun s wr => ∃ i : Nat, i ≤ 4 ∧ s = .int .i64 (i : Int) ∧ Hid (Below wb5.heap.size wb5 wr)) (fun s _ => 4 - (intOf s).toNat)
    case atStart => exact ⟨0, by omega, rfl, Below.refl _ _⟩
    case round =>
      obtain ⟨i, hi, rfl, HB⟩ := hrel
      by_cases hlt : i < 4
      · obtain ⟨s0, s1⟩ := box2 (SX.out.belowS HB.out)
        obtain ⟨p0, p1⟩ := box2 (PX.out.belowS HB.out)
        obtain ⟨b6, o6, a6, l6, c6⟩ := slot_at (SR.out.below HB.out) HN17.out
        obtain ⟨b5, o5, a5, l5, c5⟩ := slot_at (PR.out.below HB.out) HN5.out
        have k6 := c6 i hlt
        have k5 := c5 i hlt
        rw [HG2.out.2.2 i hlt] at k6
        rw [a6, HN17.out] at s1
        rw [a5, HN5.out] at p1
        have ci0 : (0 : Int) ≤ (i : Int) := by omega
        have ci4 : (i : Int) < 4 := by omega
        obtain ⟨x, hx⟩ : ∃ x, D.S.getD i ⟨#[]⟩ = x := ⟨_, rfl⟩
        rw [hx] at k5 k6
        clear c6 c5 a6 a5 hx
        by_cases hs : i = sl
        · rw [if_pos hs] at k6
          unfold setT at k6
          have n1 : ((i : Int) == (sl : Int)) = true := by simp [hs]
          have n2 : ((i : Int) != (sl : Int)) = false := by simp [hs]
          clear hs
          go_wp2_with fail
          go_quiet (fail)
          go_wp2
          go_roundw
          case rel => exact ⟨i + 1, by omega, by go_num, below_drewN HB.out _⟩
          case measure => simp [intOf]; omega
        · rw [if_neg hs] at k6
          have n1 : ((i : Int) == (sl : Int)) = false := by simp; omega
          have n2 : ((i : Int) != (sl : Int)) = true := by simp; omega
          have n3 : (x.toList == x.toList) = true := by simp
          clear hs
          go_wp2_with fail
          go_quiet (fail)
          go_wp2
          go_roundw
          case rel => exact ⟨i + 1, by omega, by go_num, below_drewN HB.out _⟩
          case measure => simp [intOf]; omega
      · have cge : ¬ (i : Int) < 4 := by omega
        rename World => wl
        clear hlt hi
        have NPX : Hid (Box wl w1.heap.size 25 #[.int .i64 h5.l, .slice h5.a h5.n h5.c]) := PX.out.belowS HB.out
        have NPR : Hid (RdG wl h5 D) := PR.out.below HB.out
        have NSX : Hid (Box wl wa5.heap.size 25 #[.int .i64 h17.l, .slice h17.a h17.n h17.c]) := SX.out.belowS HB.out
        have NSR : Hid (RdG wl h17 D2) := SR.out.below HB.out
        have NBW : Hid (Below w.heap.size w wl) := BW.out.trans (HB.out.mono BW.out.size)
        clear PX SX PR SR BW
        have PX := NPX
        have SX := NSX
        have PR := NPR
        have SR := NSR
        have BW := NBW
        clear NPX NSX NPR NSR NBW
        obtain ⟨f1, f2, f3, f4, f5, f6, f7⟩ := pb_read HK2.out
        obtain ⟨Z, hZ⟩ : ∃ Z, pbR D2 5 = Z := ⟨_, rfl⟩
        rw [hZ] at f2 f3 f4 f5 f6 f7
        have HZZ : Hid (∀ z ∈ Z, 0 ≤ z ∧ z < 256) := f3
        have lZ : Z.length ≤ 160 := f2
        have HF2 : Hid (FitG D2) := okG_fit HK2.out
        have CB : Hid (∀ (W : World) (h : HG), Below w.heap.size w W → RdG W h D2 → Calls Tryd.prog 12 #[.int .i64 5, .agg #[.int .i64 h.l, .slice h.a h.n h.c]] W fun e w' => (∃ ha hc, e = .returned (.tuple #[.slice ha Z.length hc, .int .i64 0]) ∧ w'.ownsRow W.heap.size 5 1 (.slice ha Z.length hc) Z.length (Z.map (Value.int .u8))) ∧ Below W.heap.size W w') := fun W h hW r => by
          have := c_implPB h D2 5 W r HF2.out (HT.out.below hW)
          rw [f1, hZ] at this
          exact this
        have CBS : Hid (∀ (W : World) (h : HG), RdG W h D2 → Calls Tryd.prog 13 #[.int .i64 5, .agg #[.int .i64 h.l, .slice h.a h.n h.c]] W fun e w' => (∃ ha hc, e = .returned (.tuple #[.slice ha Z.length hc, .int .i64 0]) ∧ w'.ownsRow W.heap.size 5 1 (.slice ha Z.length hc) Z.length (Z.map (Value.int .u8))) ∧ Below W.heap.size W w') := fun W h r => by
          have := c_specPB h D2 5 W r HF2.out
          rw [f1, hZ] at this
          exact this
        have CR5 : Hid (∀ (W : World) (ba : Option Addr) (bc : Nat), Below w.heap.size w W → RdV W ba Z.length (Z.map (Value.int .u8)) → Z.length ≤ bc → Calls Tryd.prog 14 #[.int .i64 5, .slice ba Z.length bc] W fun e w' => (∃ h' : HG, e = .returned (.tuple #[.agg #[.int .i64 h'.l, .slice h'.a h'.n h'.c], .int .i64 0]) ∧ OwnG w' W.heap.size w'.heap.size h' D2) ∧ Below W.heap.size W w') := fun W ba bc hW r k1 => by
          have := c_implRP 5 ba Z.length bc Z W r HZZ.out (by omega) k1 (HT.out.below hW)
          rw [f4, f5] at this
          exact this
        have CR6 : Hid (∀ (W : World) (ba : Option Addr) (bc : Nat), Below w.heap.size w W → RdV W ba Z.length (Z.map (Value.int .u8)) → Z.length ≤ bc → Calls Tryd.prog 14 #[.int .i64 6, .slice ba Z.length bc] W fun e w' => (∃ h' : HG, e = .returned (.tuple #[.agg #[.int .i64 h'.l, .slice h'.a h'.n h'.c], .int .i64 3]) ∧ OwnG w' W.heap.size w'.heap.size h' ⟨0, []⟩) ∧ Below W.heap.size W w') := fun W ba bc hW r k1 => by
          have := c_implRP 6 ba Z.length bc Z W r HZZ.out (by omega) k1 (HT.out.below hW)
          rw [f6, f7] at this
          exact this
        clear f1 f2 f3 f4 f5 f6 f7 hZ HB
        obtain ⟨S0, S1⟩ := box2 SX.out
        go_wp2_with fail
        refine (CB.out wl h17 BW.out SR.out).mono ?_
        rintro e wa16 ⟨⟨ba, bc, rfl, ob1⟩, hb⟩
        clear S0 S1
        obtain ⟨cap1, _⟩ := own_cap ob1
        have RB : Hid (RdV wa16 ba Z.length (Z.map (Value.int .u8))) := RdV.own ob1
        clear ob1
        have NPX : Hid (Box wa16 w1.heap.size 25 #[.int .i64 h5.l, .slice h5.a h5.n h5.c]) := PX.out.belowS hb
        have NPR : Hid (RdG wa16 h5 D) := PR.out.below hb
        have NSX : Hid (Box wa16 wa5.heap.size 25 #[.int .i64 h17.l, .slice h17.a h17.n h17.c]) := SX.out.belowS hb
        have NSR : Hid (RdG wa16 h17 D2) := SR.out.below hb
        have NBW : Hid (Below w.heap.size w wa16) := BW.out.trans (hb.mono BW.out.size)
        clear PX SX PR SR BW
        have PX := NPX
        have SX := NSX
        have PR := NPR
        have SR := NSR
        have BW := NBW
        clear NPX NSX NPR NSR NBW
        clear hb
        obtain ⟨S0, S1⟩ := box2 SX.out
        go_wp2_with fail
        refine (CBS.out wa16 h17 SR.out).mono ?_
        rintro e wa17 ⟨⟨ca, cc, rfl, oc1⟩, hb⟩
        clear S0 S1
        have RC : Hid (RdV wa17 ca Z.length (Z.map (Value.int .u8))) := RdV.own oc1
        clear oc1
        have NPX : Hid (Box wa17 w1.heap.size 25 #[.int .i64 h5.l, .slice h5.a h5.n h5.c]) := PX.out.belowS hb
        have NPR : Hid (RdG wa17 h5 D) := PR.out.below hb
        have NSX : Hid (Box wa17 wa5.heap.size 25 #[.int .i64 h17.l, .slice h17.a h17.n h17.c]) := SX.out.belowS hb
        have NSR : Hid (RdG wa17 h17 D2) := SR.out.below hb
        have NRB : Hid (RdV wa17 ba Z.length (Z.map (Value.int .u8))) := RB.out.below hb
        have NBW : Hid (Below w.heap.size w wa17) := BW.out.trans (hb.mono BW.out.size)
        clear PX SX PR SR RB BW
        have PX := NPX
        have SX := NSX
        have PR := NPR
        have SR := NSR
        have RB := NRB
        have BW := NBW
        clear NPX NSX NPR NSR NRB NBW
        clear hb
        go_wp2_with fail
        refine (CR5.out wa17 ba bc BW.out RB.out cap1).mono ?_
        rintro e wa18 ⟨⟨h24, rfl, oo⟩, hb⟩
        obtain ⟨wb18, hq18⟩ : ∃ Q, wa18.alloc (.cells #[.int .i64 h24.l, .slice h24.a h24.n h24.c] 25) = Q := ⟨_, rfl⟩
        have hb2 : Below wa18.heap.size wa18 wb18 := by rw [← hq18]; exact (Below.refl _ _).alloc (Nat.le_refl _) _
        have hb3 := hb.trans (hb2.mono hb.size)
        have NPX : Hid (Box wb18 w1.heap.size 25 #[.int .i64 h5.l, .slice h5.a h5.n h5.c]) := PX.out.belowS hb3
        have NPR : Hid (RdG wb18 h5 D) := PR.out.below hb3
        have NSX : Hid (Box wb18 wa5.heap.size 25 #[.int .i64 h17.l, .slice h17.a h17.n h17.c]) := SX.out.belowS hb3
        have NSR : Hid (RdG wb18 h17 D2) := SR.out.below hb3
        have NRB : Hid (RdV wb18 ba Z.length (Z.map (Value.int .u8))) := RB.out.below hb3
        have NRC : Hid (RdV wb18 ca Z.length (Z.map (Value.int .u8))) := RC.out.below hb3
        have NBW : Hid (Below w.heap.size w wb18) := BW.out.trans (hb3.mono BW.out.size)
        clear PX SX PR SR RB RC BW
        have PX := NPX
        have SX := NSX
        have PR := NPR
        have SR := NSR
        have RB := NRB
        have RC := NRC
        have BW := NBW
        clear NPX NSX NPR NSR NRB NRC NBW
        have KX : Hid (Box wb18 wa18.heap.size 25 #[.int .i64 h24.l, .slice h24.a h24.n h24.c]) := by unfold Hid; rw [← hq18]; exact Box.new _ _ _
        have KR : Hid (RdG wb18 h24 D2) := (oo.below hb2).rd
        have KS : Hid (SrcG h24) := oo.src
        clear hb hb2 hb3 oo
        go_wp2_with fail
        refine (CR6.out wb18 ba bc BW.out RB.out cap1).mono ?_
        rintro e wa19 ⟨⟨h26, rfl, oo⟩, hb⟩
        obtain ⟨wb19, hq19⟩ : ∃ Q, wa19.alloc (.cells #[.int .i64 h26.l, .slice h26.a h26.n h26.c] 25) = Q := ⟨_, rfl⟩
        have hb2 : Below wa19.heap.size wa19 wb19 := by rw [← hq19]; exact (Below.refl _ _).alloc (Nat.le_refl _) _
        have hb3 := hb.trans (hb2.mono hb.size)
        have NPX : Hid (Box wb19 w1.heap.size 25 #[.int .i64 h5.l, .slice h5.a h5.n h5.c]) := PX.out.belowS hb3
        have NPR : Hid (RdG wb19 h5 D) := PR.out.below hb3
        have NSX : Hid (Box wb19 wa5.heap.size 25 #[.int .i64 h17.l, .slice h17.a h17.n h17.c]) := SX.out.belowS hb3
        have NSR : Hid (RdG wb19 h17 D2) := SR.out.below hb3
        have NKX : Hid (Box wb19 wa18.heap.size 25 #[.int .i64 h24.l, .slice h24.a h24.n h24.c]) := KX.out.belowS hb3
        have NKR : Hid (RdG wb19 h24 D2) := KR.out.below hb3
        have NRB : Hid (RdV wb19 ba Z.length (Z.map (Value.int .u8))) := RB.out.below hb3
        have NRC : Hid (RdV wb19 ca Z.length (Z.map (Value.int .u8))) := RC.out.below hb3
        have NBW : Hid (Below w.heap.size w wb19) := BW.out.trans (hb3.mono BW.out.size)
        clear PX SX KX PR SR KR RB RC BW
        have PX := NPX
        have SX := NSX
        have KX := NKX
        have PR := NPR
        have SR := NSR
        have KR := NKR
        have RB := NRB
        have RC := NRC
        have BW := NBW
        clear NPX NSX NKX NPR NSR NKR NRB NRC NBW
        have MX : Hid (Box wb19 wa19.heap.size 25 #[.int .i64 h26.l, .slice h26.a h26.n h26.c]) := by unfold Hid; rw [← hq19]; exact Box.new _ _ _
        have MR : Hid (RdG wb19 h26 ⟨0, []⟩) := (oo.below hb2).rd
        have MS : Hid (SrcG h26) := oo.src
        clear hb hb2 hb3 oo
        obtain ⟨X, hX⟩ : ∃ X, X = strOfNums Z := ⟨_, rfl⟩
        have cv1 : (convert 22 9 (.slice ba Z.length bc)).run Tryd.prog wb19 = .ok (.string X) wb19 := by rw [hX]; exact conv8 RB.out
        have cv2 : (convert 22 9 (.slice ca Z.length cc)).run Tryd.prog wb19 = .ok (.string X) wb19 := by rw [hX]; exact conv8 RC.out
        have nx : (X.toList == X.toList) = true := by simp
        have cl : (Z.length : Int) ≤ 160 := by omega
        clear hX MX MR MS
        clear RB RC
        obtain ⟨K0, K1⟩ := box2 KX.out
        obtain ⟨S0, S1⟩ := box2 SX.out
        go_wp2_with fail
        refine (c_samePage h24 h17 D2 wb19 KR.out SR.out HF2.out).mono ?_
        rintro e wa20 ⟨rfl, hb⟩
        clear K0 K1 S0 S1
        clear cv1 cv2 nx cl
        have NPX : Hid (Box wa20 w1.heap.size 25 #[.int .i64 h5.l, .slice h5.a h5.n h5.c]) := PX.out.belowS hb
        have NPR : Hid (RdG wa20 h5 D) := PR.out.below hb
        have NSX : Hid (Box wa20 wa5.heap.size 25 #[.int .i64 h17.l, .slice h17.a h17.n h17.c]) := SX.out.belowS hb
        have NSR : Hid (RdG wa20 h17 D2) := SR.out.below hb
        have NKX : Hid (Box wa20 wa18.heap.size 25 #[.int .i64 h24.l, .slice h24.a h24.n h24.c]) := KX.out.belowS hb
        have NKR : Hid (RdG wa20 h24 D2) := KR.out.below hb
        have NBW : Hid (Below w.heap.size w wa20) := BW.out.trans (hb.mono BW.out.size)
        clear PX SX KX PR SR KR BW
        have PX := NPX
        have SX := NSX
        have KX := NKX
        have PR := NPR
        have SR := NSR
        have KR := NKR
        have BW := NBW
        clear NPX NSX NKX NPR NSR NKR NBW
        clear hb
        have COK := c_implOK h17 D2 wa20 SR.out HF2.out
        rw [HK2.out] at COK
        obtain ⟨S0, S1⟩ := box2 SX.out
        go_wp2_with fail
        refine (COK).mono ?_
        rintro e wa21 ⟨rfl, hb⟩
        clear S0 S1
        clear COK
        have NPX : Hid (Box wa21 w1.heap.size 25 #[.int .i64 h5.l, .slice h5.a h5.n h5.c]) := PX.out.belowS hb
        have NPR : Hid (RdG wa21 h5 D) := PR.out.below hb
        have NSX : Hid (Box wa21 wa5.heap.size 25 #[.int .i64 h17.l, .slice h17.a h17.n h17.c]) := SX.out.belowS hb
        have NSR : Hid (RdG wa21 h17 D2) := SR.out.below hb
        have NKX : Hid (Box wa21 wa18.heap.size 25 #[.int .i64 h24.l, .slice h24.a h24.n h24.c]) := KX.out.belowS hb
        have NKR : Hid (RdG wa21 h24 D2) := KR.out.below hb
        have NBW : Hid (Below w.heap.size w wa21) := BW.out.trans (hb.mono BW.out.size)
        clear PX SX KX PR SR KR BW
        have PX := NPX
        have SX := NSX
        have KX := NKX
        have PR := NPR
        have SR := NSR
        have KR := NKR
        have BW := NBW
        clear NPX NSX NKX NPR NSR NKR NBW
        clear hb
        go_wp2_with fail
        refine (c_implNew wa21).mono ?_
        rintro e wy ⟨⟨hy, rfl, oy⟩, hb⟩
        have BW2 : Hid (Below w.heap.size w wy) := BW.out.trans (hb.mono BW.out.size)
        have RY : Hid (RdG wy hy newG) := oy.rd
        clear hb oy
        go_wp2_with fail
        refine (c_specNew wy).mono ?_
        rintro e wz ⟨⟨hz2, rfl, oz⟩, hb⟩
        have BW3 : Hid (Below w.heap.size w wz) := BW2.out.trans (hb.mono BW2.out.size)
        have RY2 : Hid (RdG wz hy newG) := RY.out.below hb
        have RZ2 : Hid (RdG wz hz2 newG) := oz.rd
        clear hb oz
        go_wp2_with fail
        refine (c_samePage hy hz2 newG wz RY2.out RZ2.out new_fit).mono ?_
        rintro e wv ⟨rfl, hb⟩
        have BW4 : Hid (Below w.heap.size w wv) := BW3.out.trans (hb.mono BW3.out.size)
        clear hb
        go_wp2
        go_ret
        exact ⟨rfl, BW4.out⟩

end Go.Proofs.YtggnfkdeakkpaaaDoor
