/-
  The run of the specification.
-/
import Derived.Test.YtcgcaomaofppiaaDoorDc
import Derived.Test.YtcgcaomaofppiaaDoorCh
import Derived.Test.YtcgcaomaofppiaaDoorYq
import Derived.Deep.RegionHeld3
namespace Go.Proofs.YtcgcaomaofppiaaDoor
open Go Go.RowKit
attribute [local go_sem ↓] Go.wp_at_zero Go.wp_at_succ

set_option linter.unusedVariables false
set_option linter.unusedSimpArgs false
theorem own_putC {w : World} {base e g n cap : Nat} {vs : List SV} (h : w.ownsRow base e 3 (.slice (some ⟨g, 0, none⟩) n cap) n (cellsC vs)) (i : Nat) (v : SV) (hi : i < vs.length) :
    ((((w).setCell ⟨g, i * 3, none⟩ (.int .i64 v.k)).setCell ⟨g, i * 3 + 1, none⟩ (.int .i64 v.n)).setCell ⟨g, i * 3 + 2, none⟩ (.string v.t)).ownsRow base e 3 (.slice (some ⟨g, 0, none⟩) n cap) n (cellsC (vs.set i v)) := by
  have h0 := (h.stored (i * 3) (.int .i64 v.k)).1
  have h1 := (h0.stored (i * 3 + 1) (.int .i64 v.n)).1
  have h2 := (h1.stored (i * 3 + 2) (.string v.t)).1
  have := cellsC_set vs i v hi
  unfold setC at this
  rw [this] at h2
  exact h2
theorem set_snoc {S : List SV} {m : Nat} (h : S.length = m + 1) (x : SV) : S.set m x = S.dropLast ++ [x] := by
  have hpos : 0 < S.length := by omega
  have hd : S.dropLast.length = m := by simp; omega
  calc S.set m x = (S.dropLast ++ [lastS S]).set m x := by rw [snoc_last hpos]
    _ = S.dropLast ++ [x] := by rw [List.set_append, if_neg (by omega), hd, Nat.sub_self]; rfl
theorem goS_le {n : Nat} {L : List IN} : ∀ (f k : Nat) (ds d : List Int), (∀ j, ds.getD j 0 ≤ 60) → goS n L f k ds = some d → ∀ j, d.getD j 0 ≤ 60
  | 0, k, ds, d, h0, h => by
    unfold goS finD at h
    split at h
    · simp only [Option.some.injEq] at h; rw [← h]; exact h0
    · cases h
  | f + 1, k, ds, d, h0, h => by
    unfold goS at h
    cases hs : stS n k (L.getD k zeroI) ds with
    | none => rw [hs] at h; cases h
    | some e =>
      rw [hs] at h
      refine goS_le f (k + 1) e d ?_ h
      unfold stS at hs
      split at hs
      case isFalse => cases hs
      split at hs
      case isFalse => cases hs
      split at hs
      case isFalse => cases hs
      case isTrue hN =>
      simp only [Option.some.injEq] at hs
      unfold okN at hN
      rw [Bool.and_eq_true] at hN
      rw [← hs]
      refine set_le ?_ (of_decide_eq_true hN.1)
      unfold setJ
      split
      · exact set_le h0 (h0 k)
      · exact h0
theorem res_60 {n : Nat} {L : List IN} {ds : List Int} (h : resC n L = some ds) : ∀ j, ds.getD j 0 ≤ 60 := by
  refine goS_le n 0 _ _ (fun j => ?_) h
  cases j with
  | zero => simp [ds0]
  | succ j =>
    simp only [ds0, List.getD_cons_succ]
    rw [List.getD_eq_getElem?_getD, List.getElem?_replicate]
    split <;> simp
theorem emp_own {w : World} {B g : Nat} (h : Box w g 29 #[]) (hB : B ≤ g) : w.ownsRow B 29 3 (.slice (some ⟨g, 0, none⟩) 0 0) 0 (cellsC []) :=
  ⟨rfl, .inr ⟨g, 0, #[], rfl, hB, h, Nat.le_refl _, by unfold maxLen; omega, rfl, rfl⟩⟩
theorem just_vals' {n k : Nat} {x : IN} (h : justB n k x = true) : (1 ≤ x.o ∧ x.o ≤ 6) ∧ (x.o = 2 → inB x.p 0 2 = true) ∧ (x.o = 4 → inB x.p 6 13 = true) := by
  have ho := just_op h
  refine ⟨ho, fun e => ?_, fun e => ?_⟩
  · unfold justB at h
    rw [if_neg (by omega), if_pos e] at h
    simp only [Bool.and_eq_true] at h
    exact h.2
  · unfold justB at h
    rw [if_neg (by omega), if_neg (by omega), if_neg (by omega), if_pos e] at h
    simp only [Bool.and_eq_true] at h
    exact h.2
set_option maxRecDepth 100000 in
set_option maxHeartbeats 40000000 in
theorem c_l11Run (L : List IN) (la : Option Addr) (n lcap : Nat) (i : Int) (u v : VV) (w : World) (hr : RdI w la n L) (hn : n ≤ 80) (ds : List Int) (hds : WFC n L ds) (h60 : ∀ k, ds.getD k 0 ≤ 60) (hi : inB i 0 1000 = true) (hu : okV u = true) (hv : okV v = true) :
    Calls Tryd.prog 24 #[.slice la n lcap, .agg #[.int .i64 i, .int .i64 u.1, .int .i64 u.2.1, .string u.2.2, .int .i64 v.1, .int .i64 v.2.1, .string v.2.2]] w fun e w' => e = .returned (.tuple #[.agg #[.int .i64 (ranC L n i u v).k, .int .i64 (ranC L n i u v).n, .string (ranC L n i u v).t], .int .i64 (ranC L n i u v).c]) ∧ Below w.heap.size w w' := by
  obtain ⟨iV, giV, gz0, gz1, gz2⟩ := info_parts infoC
  have hiV : Hid (Tryd.prog.info? 29 = some iV) := giV
  have hz0 : Hid (iV.zero = some (.agg #[.int .i64 0, .int .i64 0, .string ⟨#[]⟩])) := gz0
  have hz1 : Hid (iV.size = 3) := gz1
  have hz2 : Hid (iV.bytes = 32) := gz2
  obtain ⟨R, hR⟩ : ∃ R, ranC L n i u v = R := ⟨_, rfl⟩
  rw [hR]
  have HR : Hid (runR L n i u v (n + 1) [] 0 = R) := hR
  have HRD : Hid (RdI w la n L) := hr
  have HDS : Hid (WFC n L ds) := hds
  have H60 : Hid (∀ k, ds.getD k 0 ≤ 60) := h60
  have HI : Hid (inB i 0 1000 = true) := hi
  have HU : Hid (okV u = true) := hu
  have HVV : Hid (okV v = true) := hv
  obtain ⟨V, hV⟩ : ∃ V, ((w.alloc (.cells #[.int .i64 i, .int .i64 u.1, .int .i64 u.2.1, .string u.2.2, .int .i64 v.1, .int .i64 v.2.1, .string v.2.2] 35)).alloc (.cells #[.int .i64 0, .int .i64 0, .string ⟨#[]⟩] 29)).alloc (.cells #[] 29) = V := ⟨_, rfl⟩
  have bV : Below w.heap.size w V := by rw [← hV]; exact (((Below.refl _ _).alloc (Nat.le_refl _) _).alloc (by simp) _).alloc (by simp; omega) _
  have RB : Hid (Box V w.heap.size 35 #[.int .i64 i, .int .i64 u.1, .int .i64 u.2.1, .string u.2.2, .int .i64 v.1, .int .i64 v.2.1, .string v.2.2]) := by unfold Hid; rw [← hV]; exact ((Box.new _ _ _).alloc _).alloc _
  have ZV : Hid (Box V (w.heap.size + 1) 29 #[.int .i64 0, .int .i64 0, .string ⟨#[]⟩]) := by unfold Hid; rw [← hV]; exact (Box.new2 _ _ _ _).alloc _
  have EV0 : Box V (w.heap.size + 2) 29 #[] := by rw [← hV]; have := Box.new2 (w.alloc (.cells #[.int .i64 i, .int .i64 u.1, .int .i64 u.2.1, .string u.2.2, .int .i64 v.1, .int .i64 v.2.1, .string v.2.2] 35)) (.cells #[.int .i64 0, .int .i64 0, .string ⟨#[]⟩] 29) #[] 29; simpa using this
  obtain ⟨B, hBe⟩ : ∃ B, w.heap.size + 2 = B := ⟨_, rfl⟩
  rw [hBe] at EV0
  have OV : Hid (V.ownsRow B 29 3 (.slice (some ⟨B, 0, none⟩) ([] : List SV).length 0) ([] : List SV).length (cellsC [])) := emp_own EV0 (by omega)
  have hBV : B ≤ V.heap.size := by have := EV0.lt; omega
  have BVw : Hid (Below w.heap.size w V) := bV
  clear hr hds hi hu hv bV hR h60 giV gz0 gz1 gz2 EV0
  go_enter Tryd.func24, Tryd.ntmps24
  go_wp2_with fail
  try rw [hV]
  clear hV
  go_loopw [6, 7] (fun s q wr => ∃ (S : List SV) (k f : Nat) (a : Option Addr) (cap : Nat), s = .slice a S.length cap ∧ q = .int .i64 (k : Int) ∧ Hid (wr.ownsRow B 29 3 (.slice a S.length cap) S.length (cellsC S)) ∧ Hid (InR n ds S k) ∧ Hid (LowB B B V wr) ∧ n - k < f ∧ Hid (runR L n i u v f S k = R)) (fun _ q _ => n - (intOf q).toNat)
  case atStart => exact ⟨[], 0, n + 1, _, 0, rfl, rfl, OV, ⟨by omega, by rw [HDS.out.z]; rfl, fun _ h => by cases h⟩, LowB.of (Below.refl _ _) (by omega), by omega, HR⟩
  case round =>
    clear OV HR
    obtain ⟨S, k, f, a, cap, rfl, rfl, O0, IR, LW, hf, HE⟩ := hrel
    have kn := IR.out.kn
    have lBr : B ≤ wr.heap.size := by have := LW.out.size; omega
    by_cases hlt : k < n
    · obtain ⟨b, off, hab, hbl, hc⟩ := HRD.out.2 (by omega)
      subst hab
      obtain ⟨⟨vo, vp, vk, vn, vt⟩, hvx⟩ : ∃ x, x = L.getD k zeroI := ⟨_, rfl⟩
      obtain ⟨d0, d1, d2, d3, d4⟩ := RdI.at hc hlt hvx
      dsimp only at d0 d1 d2 d3 d4
      have e0 : wr.cell? ⟨b, off + k * 5, none⟩ = some (.int .i64 vo) := LW.out.cell (far6 BVw.out d0) (by omega) (by omega)
      have e1 : wr.cell? ⟨b, off + k * 5 + 1, none⟩ = some (.int .i64 vp) := LW.out.cell (far6 BVw.out d1) (by omega) (by omega)
      have e2 : wr.cell? ⟨b, off + k * 5 + 2, none⟩ = some (.int .i64 vk) := LW.out.cell (far6 BVw.out d2) (by omega) (by omega)
      have e3 : wr.cell? ⟨b, off + k * 5 + 3, none⟩ = some (.int .i64 vn) := LW.out.cell (far6 BVw.out d3) (by omega) (by omega)
      have e4 : wr.cell? ⟨b, off + k * 5 + 4, none⟩ = some (.string vt) := LW.out.cell (far6 BVw.out d4) (by omega) (by omega)
      have HJ0 := HDS.out.j k hlt
      have TK0 := HDS.out.t k hlt
      obtain ⟨g0, hg0, HNX0⟩ := run_next hlt hf HE.out
      have HIN0 := in_step (i := i) (u := u) (v := v) HDS.out IR.out hlt HI.out HU.out HVV.out
      rw [← hvx] at HJ0 TK0 HNX0 HIN0
      have JV0 := just_vals' HJ0
      have HJ : Hid (justB n k ⟨vo, vp, vk, vn, vt⟩ = true) := HJ0
      have TK : Hid (tak vo ≤ (S.length : Int)) := by unfold Hid; rw [IR.out.l]; exact TK0
      have HNX : Hid ((if (stR ⟨vo, vp, vk, vn, vt⟩ i u v S k).2.2 = 0 then runR L n i u v g0 (stR ⟨vo, vp, vk, vn, vt⟩ i u v S k).1 (stR ⟨vo, vp, vk, vn, vt⟩ i u v S k).2.1 else errE (stR ⟨vo, vp, vk, vn, vt⟩ i u v S k).2.2) = R) := HNX0
      have HIN : Hid (InR n ds (stR ⟨vo, vp, vk, vn, vt⟩ i u v S k).1 (stR ⟨vo, vp, vk, vn, vt⟩ i u v S k).2.1 ∧ k < (stR ⟨vo, vp, vk, vn, vt⟩ i u v S k).2.1) := HIN0
      have JV : Hid ((1 ≤ vo ∧ vo ≤ 6) ∧ (vo = 2 → inB vp 0 2 = true) ∧ (vo = 4 → inB vp 6 13 = true)) := JV0
      have hfg : f = g0 + 1 := hg0
      have hs9 : S.length ≤ 1000 := by
        have q1 := IR.out.l
        have q2 := H60.out k
        omega
      have g1 : (0 : Int) ≤ (k : Int) := by omega
      have g2 : (k : Int) < (n : Int) := by omega
      obtain ⟨V1, hV1⟩ : ∃ W, wr.alloc (.cells #[.int .i64 vo, .int .i64 vp, .int .i64 vk, .int .i64 vn, .string vt] 59) = W := ⟨_, rfl⟩
      have bV : Below wr.heap.size wr V1 := by rw [← hV1]; exact (Below.refl _ _).alloc (Nat.le_refl _) _
      have A1 : Hid (Box V1 wr.heap.size 59 #[.int .i64 vo, .int .i64 vp, .int .i64 vk, .int .i64 vn, .string vt]) := by unfold Hid; rw [← hV1]; exact Box.new _ _ _
      have O1 : Hid (V1.ownsRow B 29 3 (.slice a S.length cap) S.length (cellsC S)) := own_below O0.out bV
      have L1 : Hid (LowB B B V V1) := LW.out.trans (LowB.of bV lBr)
      have lB1 : B ≤ V1.heap.size := by have := L1.out.size; omega
      have s1 : wr.heap.size < V1.heap.size := A1.out.lt
      have HBK : Hid (∀ g, ob a = some g → B ≤ g ∧ g < wr.heap.size) := fun g hg => by
        rcases own_form O0.out with ⟨e, _⟩ | ⟨g', c', hv', hb', hl'⟩
        · simp only [Value.slice.injEq] at e; rw [e.1] at hg; cases hg
        · simp only [Value.slice.injEq] at hv'; rw [hv'.1] at hg; cases hg; exact ⟨hb', hl'⟩
      obtain ⟨y0, y1, y2, y3, y4⟩ := box5 A1.out
      clear hc hvx d0 d1 d2 d3 d4 HJ0 TK0 HNX0 HIN0 JV0 bV hg0
      by_cases ho1 : vo = 1
      · subst ho1
        have ES : stR (⟨1, vp, vk, vn, vt⟩ : IN) i u v S k = (S ++ [(⟨vk, vn, vt⟩ : SV)], k + 1, 0) := rfl
        have HN0 := HNX.out
        have IN0 := HIN.out
        rw [ES] at HN0 IN0
        dsimp only at HN0 IN0
        have HN : Hid ((if (0 : Int) = 0 then runR L n i u v g0 (S ++ [(⟨vk, vn, vt⟩ : SV)]) (k + 1) else errE 0) = R) := HN0
        have IN1 : Hid (InR n ds (S ++ [(⟨vk, vn, vt⟩ : SV)]) (k + 1) ∧ k < k + 1) := IN0
        have HCD : Hid ((0 : Int) = 0) := rfl
        clear HN0 IN0 ES HNX HIN
        have HNr : Hid (runR L n i u v g0 (S ++ [(⟨vk, vn, vt⟩ : SV)]) (k + 1) = R) := by unfold Hid; have q := HN.out; rw [if_pos HCD.out] at q; exact q
        have INr : Hid (InR n ds (S ++ [(⟨vk, vn, vt⟩ : SV)]) (k + 1)) := IN1.out.1
        have lt' := IN1.out.2
        have kn' := INr.out.kn
        clear HN IN1
        have OW := O1
        have LWW := L1
        have lBW := lB1
        --@o1
        obtain ⟨VA, hVA⟩ : ∃ W, V1.alloc (.cells #[.int .i64 vk, .int .i64 vn, .string vt] 29) = W := ⟨_, rfl⟩
        have bA : Below V1.heap.size V1 VA := by rw [← hVA]; exact (Below.refl _ _).alloc (Nat.le_refl _) _
        have NA0 : Hid (Box VA V1.heap.size 29 #[.int .i64 vk, .int .i64 vn, .string vt]) := by unfold Hid; rw [← hVA]; exact Box.new _ _ _
        have OA : Hid (VA.ownsRow B 29 3 (.slice a S.length cap) S.length (cellsC S)) := own_below OW.out bA
        have LA : Hid (LowB B B V VA) := LWW.out.trans (LowB.of bA lBW)
        have lBA : B ≤ VA.heap.size := by have := LA.out.size; omega
        have NA : Hid (∀ ad, some (⟨V1.heap.size, 0, none⟩ : Addr) = some ad → ∀ j y, (cC (⟨vk, vn, vt⟩ : SV))[j]? = some y → VA.cell? (ad.add j) = some y) := by
          intro ad ea j y hj
          cases ea
          have hx := (NA0.out.cell j)
          rw [addr_add, Nat.zero_add, hx]
          simpa [cC, evS] using hj
        clear bA
        go_wp2_with (at_builtin; refine app_any _ rfl (.tmp 57) (.tmp 60) 62 rfl B 29 iV (.agg #[.int .i64 0, .int .i64 0, .string ⟨#[]⟩]) 3 32 Tryd.underlying62 hiV.out hz0.out hz1.out hz2.out rfl (by omega) (.slice a S.length cap) S.length (cellsC S) rfl OA.out (some ⟨V1.heap.size, 0, none⟩) 1 1 (cC (⟨vk, vn, vt⟩ : SV)) rfl (fun ex => by cases ex) rfl NA.out (oneC _) (by unfold maxLen; omega) (by omega) lBA ?_; intro a2 c2 w5 ho5 hg5 hx5; have HO5 : Hid (w5.ownsRow B 29 3 (.slice a2 (S.length + 1) c2) (S.length + 1) (cellsC S ++ cC (⟨vk, vn, vt⟩ : SV))) := ho5; have HG5 : Hid (VA.grownBy w5 (ob a)) := (by rw [ob_slice] at hg5; exact hg5); clear ho5 hg5 hx5)
        have Or : Hid (w5.ownsRow B 29 3 (.slice a2 (S ++ [(⟨vk, vn, vt⟩ : SV)]).length c2) (S ++ [(⟨vk, vn, vt⟩ : SV)]).length (cellsC (S ++ [(⟨vk, vn, vt⟩ : SV)]))) := by unfold Hid; rw [cellsC_snoc, show (S ++ [(⟨vk, vn, vt⟩ : SV)]).length = S.length + 1 by simp]; exact HO5.out
        have Lr : Hid (LowB B B V w5) := LA.out.trans ⟨HG5.out.os, HG5.out.tape, HG5.out.output, HG5.out.size, fun j hj _ => HG5.out.block j (by omega) (fun e => by have := HBK.out j e.symm; omega)⟩
        go_roundw
        case rel => exact ⟨S ++ [(⟨vk, vn, vt⟩ : SV)], k + 1, g0, a2, c2, (by rw [show (S ++ [(⟨vk, vn, vt⟩ : SV)]).length = S.length + 1 by simp]), by go_num, Or, INr, Lr, by omega, HNr⟩
        case measure => simp [intOf]; omega
        --@@
      by_cases ho2 : vo = 2
      · subst ho2
        have ES : stR (⟨2, vp, vk, vn, vt⟩ : IN) i u v S k = (S ++ [evS (colE vp i u v)], k + 1, 0) := rfl
        have HN0 := HNX.out
        have IN0 := HIN.out
        rw [ES] at HN0 IN0
        dsimp only at HN0 IN0
        have HN : Hid ((if (0 : Int) = 0 then runR L n i u v g0 (S ++ [evS (colE vp i u v)]) (k + 1) else errE 0) = R) := HN0
        have IN1 : Hid (InR n ds (S ++ [evS (colE vp i u v)]) (k + 1) ∧ k < k + 1) := IN0
        have HCD : Hid ((0 : Int) = 0) := rfl
        clear HN0 IN0 ES HNX HIN
        have HNr : Hid (runR L n i u v g0 (S ++ [evS (colE vp i u v)]) (k + 1) = R) := by unfold Hid; have q := HN.out; rw [if_pos HCD.out] at q; exact q
        have INr : Hid (InR n ds (S ++ [evS (colE vp i u v)]) (k + 1)) := IN1.out.1
        have lt' := IN1.out.2
        have kn' := INr.out.kn
        clear HN IN1
        have RB1 : Box V1 w.heap.size 35 #[.int .i64 i, .int .i64 u.1, .int .i64 u.2.1, .string u.2.2, .int .i64 v.1, .int .i64 v.2.1, .string v.2.2] := L1.out.box RB.out (by omega) (by omega)
        have C := c_colS vp i u v V1 (JV.out.2.1 rfl)
        obtain ⟨x0, x1, x2, x3, x4, x5, x6⟩ := box7 RB1
        clear RB1
        --@o2
        go_wp2_with fail
        refine C.mono ?_
        rintro e w2 ⟨rfl, hb2⟩
        have OW : Hid (w2.ownsRow B 29 3 (.slice a S.length cap) S.length (cellsC S)) := own_below O1.out hb2
        have LWW : Hid (LowB B B V w2) := L1.out.trans (LowB.of hb2 lB1)
        have lBW : B ≤ w2.heap.size := by have := LWW.out.size; omega
        clear hb2 C x0 x1 x2 x3 x4 x5 x6 y0 y1 y2 y3 y4
        obtain ⟨VA, hVA⟩ : ∃ W, w2.alloc (.cells #[.int .i64 (colE vp i u v).k, .int .i64 (colE vp i u v).n, .string (colE vp i u v).t] 29) = W := ⟨_, rfl⟩
        have bA : Below w2.heap.size w2 VA := by rw [← hVA]; exact (Below.refl _ _).alloc (Nat.le_refl _) _
        have NA0 : Hid (Box VA w2.heap.size 29 #[.int .i64 (colE vp i u v).k, .int .i64 (colE vp i u v).n, .string (colE vp i u v).t]) := by unfold Hid; rw [← hVA]; exact Box.new _ _ _
        have OA : Hid (VA.ownsRow B 29 3 (.slice a S.length cap) S.length (cellsC S)) := own_below OW.out bA
        have LA : Hid (LowB B B V VA) := LWW.out.trans (LowB.of bA lBW)
        have lBA : B ≤ VA.heap.size := by have := LA.out.size; omega
        have NA : Hid (∀ ad, some (⟨w2.heap.size, 0, none⟩ : Addr) = some ad → ∀ j y, (cC (evS (colE vp i u v)))[j]? = some y → VA.cell? (ad.add j) = some y) := by
          intro ad ea j y hj
          cases ea
          have hx := (NA0.out.cell j)
          rw [addr_add, Nat.zero_add, hx]
          simpa [cC, evS] using hj
        clear bA
        go_wp2_with (at_builtin; refine app_any _ rfl (.tmp 64) (.tmp 69) 62 rfl B 29 iV (.agg #[.int .i64 0, .int .i64 0, .string ⟨#[]⟩]) 3 32 Tryd.underlying62 hiV.out hz0.out hz1.out hz2.out rfl (by omega) (.slice a S.length cap) S.length (cellsC S) rfl OA.out (some ⟨w2.heap.size, 0, none⟩) 1 1 (cC (evS (colE vp i u v))) rfl (fun ex => by cases ex) rfl NA.out (oneC _) (by unfold maxLen; omega) (by omega) lBA ?_; intro a2 c2 w5 ho5 hg5 hx5; have HO5 : Hid (w5.ownsRow B 29 3 (.slice a2 (S.length + 1) c2) (S.length + 1) (cellsC S ++ cC (evS (colE vp i u v)))) := ho5; have HG5 : Hid (VA.grownBy w5 (ob a)) := (by rw [ob_slice] at hg5; exact hg5); clear ho5 hg5 hx5)
        have Or : Hid (w5.ownsRow B 29 3 (.slice a2 (S ++ [evS (colE vp i u v)]).length c2) (S ++ [evS (colE vp i u v)]).length (cellsC (S ++ [evS (colE vp i u v)]))) := by unfold Hid; rw [cellsC_snoc, show (S ++ [evS (colE vp i u v)]).length = S.length + 1 by simp]; exact HO5.out
        have Lr : Hid (LowB B B V w5) := LA.out.trans ⟨HG5.out.os, HG5.out.tape, HG5.out.output, HG5.out.size, fun j hj _ => HG5.out.block j (by omega) (fun e => by have := HBK.out j e.symm; omega)⟩
        go_roundw
        case rel => exact ⟨S ++ [evS (colE vp i u v)], k + 1, g0, a2, c2, (by rw [show (S ++ [evS (colE vp i u v)]).length = S.length + 1 by simp]), by go_num, Or, INr, Lr, by omega, HNr⟩
        case measure => simp [intOf]; omega
        --@@
      by_cases ho3 : vo = 3
      · subst ho3
        have tkl := TK.out
        obtain ⟨m, hm⟩ : ∃ m, S.length = m + 1 := ⟨S.length - 1, by have q : tak (3 : Int) = 1 := rfl; rw [q] at tkl; omega⟩
        obtain ⟨g, rfl, hBg, hgl, hq⟩ := own_top O1.out (by omega)
        have hgw : g < wr.heap.size := (HBK.out g rfl).2
        have HM : Hid (S.length = m + 1) := hm
        have cl := cap_le O1.out
        obtain ⟨q0, q1, q2, f0, f1, f2⟩ := hq m (by omega)
        have hT : lastS S = S.getD m zeroC := by unfold lastS; rw [hm]; rfl
        rw [← hT] at q0 q1 q2
        obtain ⟨E, hE⟩ : ∃ E, unaE vp (lastS S).k (lastS S).n = E := ⟨_, rfl⟩
        have ok0 : okS (lastS S) := IR.out.o _ (last_mem (by omega))
        have ES : stR (⟨3, vp, vk, vn, vt⟩ : IN) i u v S k = (S.dropLast ++ [evS E], k + 1, E.c) := by rw [← hE]; rfl
        have HN0 := HNX.out
        have IN0 := HIN.out
        rw [ES] at HN0 IN0
        dsimp only at HN0 IN0
        obtain ⟨cd, hcd⟩ : ∃ x, x = (E.c : Int) := ⟨_, rfl⟩
        rw [← hcd] at HN0
        have HN : Hid ((if cd = 0 then runR L n i u v g0 (S.dropLast ++ [evS E]) (k + 1) else errE cd) = R) := HN0
        have IN1 : Hid (InR n ds (S.dropLast ++ [evS E]) (k + 1) ∧ k < k + 1) := IN0
        have HCD : Hid (cd = E.c) := hcd
        clear HN0 IN0 ES hcd HNX HIN
        obtain ⟨T, hTT⟩ : ∃ T, lastS S = T := ⟨_, rfl⟩
        rw [hTT] at q0 q1 q2 hE ok0
        have CU : Hid (∀ W, Calls Tryd.prog 43 #[.int .i64 vp, .agg #[.int .i64 T.k, .int .i64 T.n, .string T.t]] W fun e w' => e = .returned (.tuple #[.agg #[.int .i64 E.k, .int .i64 E.n, .string E.t], .int .i64 E.c]) ∧ Below W.heap.size W w') := fun W => by rw [← hE]; exact c_uS vp T.k T.n T.t W ok0
        have FA : Hid (∀ W, Below V1.heap.size V1 W → (∃ u0 u1 u2, W.cell? ⟨g, m * 3, none⟩ = some u0 ∧ W.cell? ⟨g, m * 3 + 1, none⟩ = some u1 ∧ W.cell? ⟨g, m * 3 + 2, none⟩ = some u2) ∧ W.frozen? ⟨g, m * 3, none⟩ = false ∧ W.frozen? ⟨g, m * 3 + 1, none⟩ = false ∧ W.frozen? ⟨g, m * 3 + 2, none⟩ = false) := fun W hW => by
          have OWw := own_below O1.out hW
          exact ⟨⟨_, _, _, far6 hW q0, far6 hW q1, far6 hW q2⟩, OWw.frozenAt _, OWw.frozenAt _, OWw.frozenAt _⟩
        have G3 : (0 : Int) ≤ (m : Int) := by omega
        have G4 : (m : Int) < (m : Int) + 1 := by omega
        rw [hm]
        have hm9 : m < 1000 := by omega
        clear hm hT hTT hE ok0 hq tkl f0 f1 f2 hs9
        have hcdE : E.c = cd := HCD.out.symm
        --@o3
        go_wp2_with fail
        go_region_with (go_at_call 43; refine (CU.out _).mono ?_; rintro e w2 ⟨rfl, hb2⟩; have hb2' : Below V1.heap.size V1 w2 := ((Below.refl _ _).drew.trans hb2); obtain ⟨⟨u0, u1, u2, r0, r1, r2⟩, v0, v1, v2⟩ := FA.out w2 hb2'; clear hb2)
        all_goals
          have O2 := own_below O1.out hb2'
          have L2 : LowB B B V w2 := L1.out.trans (LowB.of hb2' lB1)
          rw [HM.out] at O2
          have O3 := own_putC O2 m (evS E) (by have := HM.out; omega)
          rw [set_snoc HM.out] at O3
          have Or : Hid (_) := O3
          obtain ⟨W3, hW3⟩ : ∃ W, (((w2).setCell ⟨g, m * 3, none⟩ (.int .i64 E.k)).setCell ⟨g, m * 3 + 1, none⟩ (.int .i64 E.n)).setCell ⟨g, m * 3 + 2, none⟩ (.string E.t) = W := ⟨_, rfl⟩
          have Or3 : Hid (W3.ownsRow B 29 3 (.slice (some ⟨g, 0, none⟩) (m + 1) cap) (m + 1) (cellsC (S.dropLast ++ [evS E]))) := by unfold Hid; rw [← hW3]; exact Or.out
          have Lr : Hid (LowB B B V W3) := by unfold Hid; rw [← hW3]; exact ((L2.set _ _ (.inr (by show B ≤ g; omega))).set _ _ (.inr (by show B ≤ g; omega))).set _ _ (.inr (by show B ≤ g; omega))
          have hS2 : (S.dropLast ++ [evS E]).length = m + 1 := by simp [HM.out]
          have HS2 : Hid ((S.dropLast ++ [evS E]).length = m + 1) := hS2
          try rw [hW3]
          try rw [hcdE]
          clear O2 O3 L2 hb2' hW3 Or r0 r1 r2 v0 v1 v2 hS2 q0 q1 q2 y0 y1 y2 y3 y4
          by_cases hc0 : cd = 0
          · have hnz : (cd != 0) = false := by simp [hc0]
            have HNr : Hid (runR L n i u v g0 (S.dropLast ++ [evS E]) (k + 1) = R) := by unfold Hid; have q := HN.out; rw [if_pos hc0] at q; exact q
            have INr : Hid (InR n ds (S.dropLast ++ [evS E]) (k + 1)) := IN1.out.1
            have kn' := INr.out.kn
            clear HN IN1 hc0
            go_wp2
            go_roundw
            case rel => exact ⟨S.dropLast ++ [evS E], k + 1, g0, _, cap, (by rw [HS2.out]), by go_num, (by unfold Hid; rw [HS2.out]; exact Or3.out), INr, Lr, by omega, HNr⟩
            case measure => simp [intOf]; omega
          · skip
            have hnz : (cd != 0) = true := by simp [hc0]
            have HE0 : Hid (R = errE cd) := by unfold Hid; have q := HN.out; rw [if_neg hc0] at q; exact q.symm
            have ZZ : Box W3 (w.heap.size + 1) 29 #[.int .i64 0, .int .i64 0, .string ⟨#[]⟩] := Lr.out.box ZV.out (by omega) (by omega)
            obtain ⟨z0, z1, z2⟩ := box3 ZZ
            have t0 := ZZ.thaw 0
            have t1 := ZZ.thaw 1
            have t2 := ZZ.thaw 2
            have HZ : Hid (Box W3 (w.heap.size + 1) 29 #[.int .i64 0, .int .i64 0, .string ⟨#[]⟩]) := ZZ
            clear hc0 ZZ HN IN1
            go_wp2
            refine ret32 Tryd.results24 rfl rfl rfl (put3_box HZ.out _ _ _) ⟨by rw [HE0.out]; rfl, ?_⟩
            exact put3_below (BVw.out.trans (Lr.out.below (by omega) (by omega))) (by omega) _ _ _
        --@@
      by_cases ho4 : vo = 4
      · subst ho4
        have tkl := TK.out
        obtain ⟨m, hm⟩ : ∃ m, S.length = m + 2 := ⟨S.length - 2, by have q : tak (4 : Int) = 2 := rfl; rw [q] at tkl; omega⟩
        obtain ⟨g, rfl, hBg, hgl, hq⟩ := own_top O1.out (by omega)
        have hgw : g < wr.heap.size := (HBK.out g rfl).2
        have HM : Hid (S.length = m + 2) := hm
        have cl := cap_le O1.out
        obtain ⟨q0, q1, q2, _, _, _⟩ := hq (m + 1) (by omega)
        obtain ⟨x0, x1, x2, _, _, _⟩ := hq m (by omega)
        have hT : lastS S = S.getD (m + 1) zeroC := by unfold lastS; rw [hm]; rfl
        have hDl : S.dropLast.length = m + 1 := by simp; omega
        have hT2 : lastS S.dropLast = S.getD m zeroC := by
          unfold lastS
          rw [hDl, List.getD_eq_getElem?_getD, List.getD_eq_getElem?_getD, List.getElem?_dropLast, if_pos (by omega)]
          rfl
        rw [← hT] at q0 q1 q2
        rw [← hT2] at x0 x1 x2
        obtain ⟨E, hE⟩ : ∃ E, binR vp (lastS S.dropLast).k (lastS S.dropLast).n (lastS S.dropLast).t (lastS S).k (lastS S).n (lastS S).t = E := ⟨_, rfl⟩
        have ok0 : okS (lastS S) := IR.out.o _ (last_mem (by omega))
        have ok1 : okS (lastS S.dropLast) := IR.out.o _ (mem_drop (last_mem (by omega)))
        have hpp := inB_iff.1 (JV.out.2.2 rfl)
        have ES : stR (⟨4, vp, vk, vn, vt⟩ : IN) i u v S k = (S.dropLast.dropLast ++ [brS E], k + 1, E.c) := by rw [← hE]; rfl
        have HN0 := HNX.out
        have IN0 := HIN.out
        rw [ES] at HN0 IN0
        dsimp only at HN0 IN0
        obtain ⟨cd, hcd⟩ : ∃ x, x = (E.c : Int) := ⟨_, rfl⟩
        rw [← hcd] at HN0
        have HN : Hid ((if cd = 0 then runR L n i u v g0 (S.dropLast.dropLast ++ [brS E]) (k + 1) else errE cd) = R) := HN0
        have IN1 : Hid (InR n ds (S.dropLast.dropLast ++ [brS E]) (k + 1) ∧ k < k + 1) := IN0
        have HCD : Hid (cd = E.c) := hcd
        clear HN0 IN0 ES hcd HNX HIN
        obtain ⟨T, hTT⟩ : ∃ T, lastS S = T := ⟨_, rfl⟩
        obtain ⟨T2, hTT2⟩ : ∃ T, lastS S.dropLast = T := ⟨_, rfl⟩
        rw [hTT] at q0 q1 q2 hE ok0
        rw [hTT2] at x0 x1 x2 hE ok1
        have CU : Hid (∀ W, Calls Tryd.prog 44 #[.int .i64 vp, .agg #[.int .i64 T2.k, .int .i64 T2.n, .string T2.t], .agg #[.int .i64 T.k, .int .i64 T.n, .string T.t]] W fun e w' => e = .returned (.tuple #[.agg #[.int .i64 E.k, .int .i64 E.n, .string ⟨#[]⟩], .int .i64 E.c]) ∧ Below W.heap.size W w') := fun W => by rw [← hE]; exact c_l10B vp T2.k T2.n T2.t T.k T.n T.t W hpp.1 hpp.2 (rt_of ok1) (rt_of ok0)
        have FA : Hid (∀ W, Below V1.heap.size V1 W → (∃ u0 u1 u2, W.cell? ⟨g, m * 3, none⟩ = some u0 ∧ W.cell? ⟨g, m * 3 + 1, none⟩ = some u1 ∧ W.cell? ⟨g, m * 3 + 2, none⟩ = some u2) ∧ W.frozen? ⟨g, m * 3, none⟩ = false ∧ W.frozen? ⟨g, m * 3 + 1, none⟩ = false ∧ W.frozen? ⟨g, m * 3 + 2, none⟩ = false) := fun W hW => by
          have OWw := own_below O1.out hW
          exact ⟨⟨_, _, _, far6 hW x0, far6 hW x1, far6 hW x2⟩, OWw.frozenAt _, OWw.frozenAt _, OWw.frozenAt _⟩
        have G3 : (0 : Int) ≤ (m : Int) := by omega
        have G4 : (m : Int) < (m : Int) + 2 := by omega
        have G5 : (m : Int) + 1 < (m : Int) + 2 := by omega
        have G6 : (0 : Int) ≤ (m : Int) + 1 := by omega
        have G7 : (m : Int) + 1 ≤ (cap : Int) := by omega
        have E1 : (m : Int) + 2 - 1 = (m : Int) + 1 := by omega
        have E2 : (m : Int) + 1 - 1 = (m : Int) := by omega
        rw [hm]
        have hm9 : m < 1000 := by omega
        clear hm hT hT2 hTT hTT2 hE ok0 ok1 hq tkl hpp hDl hs9
        have hcdE : E.c = cd := HCD.out.symm
        have WM : IntKind.i64.wrap (m : Int) = (m : Int) := by rw [IntKind.wrap_i64]; omega
        --@o4
        go_wp2_with fail
        go_region_with (go_at_call 44; refine (CU.out _).mono ?_; rintro e w2 ⟨rfl, hb2⟩; have hb2' : Below V1.heap.size V1 w2 := ((Below.refl _ _).drew.trans hb2); obtain ⟨⟨u0, u1, u2, r0, r1, r2⟩, v0, v1, v2⟩ := FA.out w2 hb2'; clear hb2)
        all_goals
          have O2 := own_below O1.out hb2'
          have L2 : LowB B B V w2 := L1.out.trans (LowB.of hb2' lB1)
          have hSS : (S.set m (brS E)).length = m + 2 := by simp [HM.out]
          have hdd : (S.set m (brS E)).dropLast = S.dropLast.dropLast ++ [brS E] := by
            rw [List.dropLast_eq_take, hSS, ← set_snoc (S := S.dropLast) (m := m) (by simp [HM.out]), List.dropLast_eq_take, HM.out, List.take_set]
          rw [HM.out] at O2
          have O3 := own_putC O2 m (brS E) (by have := HM.out; omega)
          rw [← hSS] at O3
          have O4 := own_cut O3 (by omega)
          rw [hdd] at O4
          obtain ⟨W3, hW3⟩ : ∃ W, ((w2.setCell ⟨g, m * 3, none⟩ (.int .i64 E.k)).setCell ⟨g, m * 3 + 1, none⟩ (.int .i64 E.n)).setCell ⟨g, m * 3 + 2, none⟩ (.string ⟨#[]⟩) = W := ⟨_, rfl⟩
          have Or3 : Hid (W3.ownsRow B 29 3 (.slice (some ⟨g, 0, none⟩) (S.dropLast.dropLast ++ [brS E]).length cap) (S.dropLast.dropLast ++ [brS E]).length (cellsC (S.dropLast.dropLast ++ [brS E]))) := by unfold Hid; rw [← hW3]; exact O4
          have Lr : Hid (LowB B B V W3) := by unfold Hid; rw [← hW3]; exact ((L2.set _ _ (.inr (by show B ≤ g; omega))).set _ _ (.inr (by show B ≤ g; omega))).set _ _ (.inr (by show B ≤ g; omega))
          have HS2 : Hid ((S.dropLast.dropLast ++ [brS E]).length = m + 1) := by unfold Hid; simp [HM.out]
          try rw [hW3]
          try rw [hcdE]
          clear O2 O3 O4 L2 hb2' hW3 r0 r1 r2 v0 v1 v2 hSS hdd q0 q1 q2 x0 x1 x2 y0 y1 y2 y3 y4
          by_cases hc0 : cd = 0
          · have hnz : (cd != 0) = false := by simp [hc0]
            have HNr : Hid (runR L n i u v g0 (S.dropLast.dropLast ++ [brS E]) (k + 1) = R) := by unfold Hid; have q := HN.out; rw [if_pos hc0] at q; exact q
            have INr : Hid (InR n ds (S.dropLast.dropLast ++ [brS E]) (k + 1)) := IN1.out.1
            have kn' := INr.out.kn
            clear HN IN1 hc0
            go_wp2
            go_roundw
            case rel => exact ⟨S.dropLast.dropLast ++ [brS E], k + 1, g0, _, cap, (by rw [HS2.out]), by go_num, Or3, INr, Lr, by omega, HNr⟩
            case measure => simp [intOf]; omega
          · skip
            have hnz : (cd != 0) = true := by simp [hc0]
            have HE0 : Hid (R = errE cd) := by unfold Hid; have q := HN.out; rw [if_neg hc0] at q; exact q.symm
            have ZZ : Box W3 (w.heap.size + 1) 29 #[.int .i64 0, .int .i64 0, .string ⟨#[]⟩] := Lr.out.box ZV.out (by omega) (by omega)
            obtain ⟨z0, z1, z2⟩ := box3 ZZ
            have t0 := ZZ.thaw 0
            have t1 := ZZ.thaw 1
            have t2 := ZZ.thaw 2
            have HZ : Hid (Box W3 (w.heap.size + 1) 29 #[.int .i64 0, .int .i64 0, .string ⟨#[]⟩]) := ZZ
            clear hc0 ZZ HN IN1
            go_wp2
            refine ret32 Tryd.results24 rfl rfl rfl (put3_box HZ.out _ _ _) ⟨by rw [HE0.out]; rfl, ?_⟩
            exact put3_below (BVw.out.trans (Lr.out.below (by omega) (by omega))) (by omega) _ _ _
        --@@
      by_cases ho5 : vo = 5
      · subst ho5
        have tkl := TK.out
        obtain ⟨m, hm⟩ : ∃ m, S.length = m + 1 := ⟨S.length - 1, by have q : tak (5 : Int) = 1 := rfl; rw [q] at tkl; omega⟩
        obtain ⟨g, rfl, hBg, hgl, hq⟩ := own_top O1.out (by omega)
        have hgw : g < wr.heap.size := (HBK.out g rfl).2
        have HM : Hid (S.length = m + 1) := hm
        have cl := cap_le O1.out
        obtain ⟨q0, q1, q2, f0, f1, f2⟩ := hq m (by omega)
        have hT : lastS S = S.getD m zeroC := by unfold lastS; rw [hm]; rfl
        rw [← hT] at q0 q1 q2
        have hpj := just_j HJ.out rfl
        dsimp only at hpj
        obtain ⟨T, hTT⟩ : ∃ T, lastS S = T := ⟨_, rfl⟩
        obtain ⟨p, hp⟩ : ∃ p : Nat, vp = (p : Int) := ⟨vp.toNat, by omega⟩
        have HSD : Hid (stR (⟨5, vp, vk, vn, vt⟩ : IN) i u v S k = if decB 12 T.k T.n then (S.dropLast ++ [(⟨1, trI ((12 : Int) == 13), ⟨#[]⟩⟩ : SV)], p, (0 : Int)) else (S, k + 1, 0)) := by
          unfold Hid
          show (if decB 12 (lastS S).k (lastS S).n then (S.dropLast ++ [(⟨1, trI ((12 : Int) == 13), ⟨#[]⟩⟩ : SV)], vp.toNat, (0 : Int)) else (S, k + 1, 0)) = _
          rw [hTT, hp, Int.toNat_natCast]
        rw [hTT] at q0 q1 q2
        have HP : Hid (vp = (p : Int)) := hp
        have G3 : (0 : Int) ≤ (m : Int) := by omega
        have G4 : (m : Int) < (m : Int) + 1 := by omega
        have E1 : (m : Int) + 1 - 1 = (m : Int) := by omega
        have hm9 : m < 1000 := by omega
        obtain ⟨V2, hV2⟩ : ∃ W, V1.alloc (.cells #[.int .i64 T.k, .int .i64 T.n, .string T.t] 29) = W := ⟨_, rfl⟩
        have b2 : Below V1.heap.size V1 V2 := by rw [← hV2]; exact (Below.refl _ _).alloc (Nat.le_refl _) _
        have O2 : Hid (V2.ownsRow B 29 3 (.slice (some ⟨g, 0, none⟩) S.length cap) S.length (cellsC S)) := own_below O1.out b2
        have L2 : Hid (LowB B B V V2) := L1.out.trans (LowB.of b2 lB1)
        have A2 : Box V2 wr.heap.size 59 #[.int .i64 5, .int .i64 vp, .int .i64 vk, .int .i64 vn, .string vt] := A1.out.belowS b2
        have T2 : Box V2 V1.heap.size 29 #[.int .i64 T.k, .int .i64 T.n, .string T.t] := by rw [← hV2]; exact Box.new _ _ _
        obtain ⟨a0, a1, a2, a3, a4⟩ := box5 A2
        obtain ⟨c0, c1, c2⟩ := box3 T2
        have lB2 : B ≤ V2.heap.size := by have := L2.out.size; omega
        have FA : Hid (∀ W, Below V2.heap.size V2 W → (∃ u0 u1 u2, W.cell? ⟨g, m * 3, none⟩ = some u0 ∧ W.cell? ⟨g, m * 3 + 1, none⟩ = some u1 ∧ W.cell? ⟨g, m * 3 + 2, none⟩ = some u2) ∧ W.frozen? ⟨g, m * 3, none⟩ = false ∧ W.frozen? ⟨g, m * 3 + 1, none⟩ = false ∧ W.frozen? ⟨g, m * 3 + 2, none⟩ = false) := fun W hW => by
          have OWw := own_below O2.out hW
          exact ⟨⟨_, _, _, far6 hW (far6 b2 q0), far6 hW (far6 b2 q1), far6 hW (far6 b2 q2)⟩, OWw.frozenAt _, OWw.frozenAt _, OWw.frozenAt _⟩
        have CI : Hid (∀ W z, Calls Tryd.prog 45 #[.int .i64 z] W fun e w' => e = .returned (.agg #[.int .i64 1, .int .i64 z, .string ⟨#[]⟩]) ∧ Below W.heap.size W w') := fun W z => c_l10Int z W
        have CB : Hid (∀ W b, Calls Tryd.prog 46 #[.bool b] W fun e w' => e = .returned (.int .i64 (if b then 1 else 0)) ∧ w' = W) := fun W b => c_bit b W
        rw [hm]
        clear hm hT hTT hq tkl f0 f1 f2 b2 A2 T2 hs9 hp
        cases k1 : (T.k == 1)
        · have D : decB 12 T.k T.n = false := by unfold decB; rw [k1]; rfl
          have ES := HSD.out
          rw [D] at ES
          simp only [Bool.false_eq_true, if_false] at ES
          have HN0 := HNX.out
          have IN0 := HIN.out
          rw [ES] at HN0 IN0
          dsimp only at HN0 IN0
          rw [if_pos rfl] at HN0
          have HNr : Hid (runR L n i u v g0 S (k + 1) = R) := HN0
          have INr : Hid (InR n ds S (k + 1)) := IN0.1
          have kn' := INr.out.kn
          clear HN0 IN0 ES D HSD HNX HIN FA CI CB
          --@j5_1
          go_wp2
          go_roundw
          case rel => exact ⟨S, k + 1, g0, _, cap, (by rw [HM.out]), by go_num, O2, INr, L2, by omega, HNr⟩
          case measure => simp [intOf]; omega
          --@@
        cases n0 : (T.n == 0)
        · have D : decB 12 T.k T.n = false := by unfold decB; rw [k1]; simp [n0, bne]
          have ES := HSD.out
          rw [D] at ES
          simp only [Bool.false_eq_true, if_false] at ES
          have HN0 := HNX.out
          have IN0 := HIN.out
          rw [ES] at HN0 IN0
          dsimp only at HN0 IN0
          rw [if_pos rfl] at HN0
          have HNr : Hid (runR L n i u v g0 S (k + 1) = R) := HN0
          have INr : Hid (InR n ds S (k + 1)) := IN0.1
          have kn' := INr.out.kn
          clear HN0 IN0 ES D HSD HNX HIN FA CI CB
          --@j5_2
          go_wp2
          go_roundw
          case rel => exact ⟨S, k + 1, g0, _, cap, (by rw [HM.out]), by go_num, O2, INr, L2, by omega, HNr⟩
          case measure => simp [intOf]; omega
          --@@
        · have D : decB 12 T.k T.n = true := by unfold decB; rw [k1, n0]; simp [bne, n0]
          have ES := HSD.out
          rw [D] at ES
          simp only [if_true] at ES
          have HN0 := HNX.out
          have IN0 := HIN.out
          rw [ES] at HN0 IN0
          dsimp only at HN0 IN0
          rw [if_pos rfl] at HN0
          have HNr : Hid (runR L n i u v g0 (S.dropLast ++ [(⟨1, trI ((12 : Int) == 13), ⟨#[]⟩⟩ : SV)]) p = R) := HN0
          have INr : Hid (InR n ds (S.dropLast ++ [(⟨1, trI ((12 : Int) == 13), ⟨#[]⟩⟩ : SV)]) p) := IN0.1
          have lt' := IN0.2
          have kn' := INr.out.kn
          have hvp : vp = (p : Int) := HP.out
          subst hvp
          have E7 : (p : Int) - 1 + 1 = (p : Int) := by omega
          clear HN0 IN0 ES D HSD HNX HIN HP
          --@j5_3
          go_wp2_with (first | (go_at_call 46; refine (CB.out _ _).mono ?_; rintro e w2 ⟨rfl, rfl⟩))
          refine (CI.out _ _).mono ?_
          rintro e w2 ⟨rfl, hb2⟩
          obtain ⟨⟨u0, u1, u2, r0, r1, r2⟩, v0, v1, v2⟩ := FA.out w2 hb2
          have O3 := own_below O2.out hb2
          have L3 : LowB B B V w2 := L2.out.trans (LowB.of hb2 lB2)
          rw [HM.out] at O3
          have O4 := own_putC O3 m (⟨1, trI ((12 : Int) == 13), ⟨#[]⟩⟩ : SV) (by have := HM.out; omega)
          rw [set_snoc HM.out] at O4
          obtain ⟨W3, hW3⟩ : ∃ W, ((w2.setCell ⟨g, m * 3, none⟩ (.int .i64 1)).setCell ⟨g, m * 3 + 1, none⟩ (.int .i64 0)).setCell ⟨g, m * 3 + 2, none⟩ (.string ⟨#[]⟩) = W := ⟨_, rfl⟩
          have Or3 : Hid (W3.ownsRow B 29 3 (.slice (some ⟨g, 0, none⟩) (m + 1) cap) (m + 1) (cellsC (S.dropLast ++ [(⟨1, trI ((12 : Int) == 13), ⟨#[]⟩⟩ : SV)]))) := by unfold Hid; rw [← hW3]; exact O4
          have Lr : Hid (LowB B B V W3) := by unfold Hid; rw [← hW3]; exact ((L3.set _ _ (.inr (by show B ≤ g; omega))).set _ _ (.inr (by show B ≤ g; omega))).set _ _ (.inr (by show B ≤ g; omega))
          have HS2 : Hid ((S.dropLast ++ [(⟨1, trI ((12 : Int) == 13), ⟨#[]⟩⟩ : SV)]).length = m + 1) := by unfold Hid; simp [HM.out]
          have a1' : w2.cell? ⟨wr.heap.size, 1, none⟩ = some (.int .i64 (p : Int)) := far6 hb2 a1
          have a1'' : W3.cell? ⟨wr.heap.size, 1, none⟩ = some (.int .i64 (p : Int)) := by
            rw [← hW3, World.cell?_of_block (Below.heap_setCell _ _ _ _ (by show wr.heap.size ≠ g; omega)), World.cell?_of_block (Below.heap_setCell _ _ _ _ (by show wr.heap.size ≠ g; omega)), World.cell?_of_block (Below.heap_setCell _ _ _ _ (by show wr.heap.size ≠ g; omega))]
            exact a1'
          clear O3 O4 L3 hb2 q0 q1 q2 y0 y1 y2 y3 y4 a0 a1 a2 a3 a4 c0 c1 c2 FA CI CB
          go_wp2
          go_roundw
          case rel => exact ⟨S.dropLast ++ [(⟨1, trI ((12 : Int) == 13), ⟨#[]⟩⟩ : SV)], p, g0, _, cap, (by rw [HS2.out]), (by first | rfl | go_num), (by unfold Hid; rw [HS2.out]; exact Or3.out), INr, Lr, by omega, HNr⟩
          case measure => simp [intOf]; omega
          --@@
      by_cases ho6 : vo = 6
      · subst ho6
        have tkl := TK.out
        obtain ⟨m, hm⟩ : ∃ m, S.length = m + 1 := ⟨S.length - 1, by have q : tak (6 : Int) = 1 := rfl; rw [q] at tkl; omega⟩
        obtain ⟨g, rfl, hBg, hgl, hq⟩ := own_top O1.out (by omega)
        have hgw : g < wr.heap.size := (HBK.out g rfl).2
        have HM : Hid (S.length = m + 1) := hm
        have cl := cap_le O1.out
        obtain ⟨q0, q1, q2, f0, f1, f2⟩ := hq m (by omega)
        have hT : lastS S = S.getD m zeroC := by unfold lastS; rw [hm]; rfl
        rw [← hT] at q0 q1 q2
        have hpj := just_j HJ.out rfl
        dsimp only at hpj
        obtain ⟨T, hTT⟩ : ∃ T, lastS S = T := ⟨_, rfl⟩
        obtain ⟨p, hp⟩ : ∃ p : Nat, vp = (p : Int) := ⟨vp.toNat, by omega⟩
        have HSD : Hid (stR (⟨6, vp, vk, vn, vt⟩ : IN) i u v S k = if decB 13 T.k T.n then (S.dropLast ++ [(⟨1, trI ((13 : Int) == 13), ⟨#[]⟩⟩ : SV)], p, (0 : Int)) else (S, k + 1, 0)) := by
          unfold Hid
          show (if decB 13 (lastS S).k (lastS S).n then (S.dropLast ++ [(⟨1, trI ((13 : Int) == 13), ⟨#[]⟩⟩ : SV)], vp.toNat, (0 : Int)) else (S, k + 1, 0)) = _
          rw [hTT, hp, Int.toNat_natCast]
        rw [hTT] at q0 q1 q2
        have HP : Hid (vp = (p : Int)) := hp
        have G3 : (0 : Int) ≤ (m : Int) := by omega
        have G4 : (m : Int) < (m : Int) + 1 := by omega
        have E1 : (m : Int) + 1 - 1 = (m : Int) := by omega
        have hm9 : m < 1000 := by omega
        obtain ⟨V2, hV2⟩ : ∃ W, V1.alloc (.cells #[.int .i64 T.k, .int .i64 T.n, .string T.t] 29) = W := ⟨_, rfl⟩
        have b2 : Below V1.heap.size V1 V2 := by rw [← hV2]; exact (Below.refl _ _).alloc (Nat.le_refl _) _
        have O2 : Hid (V2.ownsRow B 29 3 (.slice (some ⟨g, 0, none⟩) S.length cap) S.length (cellsC S)) := own_below O1.out b2
        have L2 : Hid (LowB B B V V2) := L1.out.trans (LowB.of b2 lB1)
        have A2 : Box V2 wr.heap.size 59 #[.int .i64 6, .int .i64 vp, .int .i64 vk, .int .i64 vn, .string vt] := A1.out.belowS b2
        have T2 : Box V2 V1.heap.size 29 #[.int .i64 T.k, .int .i64 T.n, .string T.t] := by rw [← hV2]; exact Box.new _ _ _
        obtain ⟨a0, a1, a2, a3, a4⟩ := box5 A2
        obtain ⟨c0, c1, c2⟩ := box3 T2
        have lB2 : B ≤ V2.heap.size := by have := L2.out.size; omega
        have FA : Hid (∀ W, Below V2.heap.size V2 W → (∃ u0 u1 u2, W.cell? ⟨g, m * 3, none⟩ = some u0 ∧ W.cell? ⟨g, m * 3 + 1, none⟩ = some u1 ∧ W.cell? ⟨g, m * 3 + 2, none⟩ = some u2) ∧ W.frozen? ⟨g, m * 3, none⟩ = false ∧ W.frozen? ⟨g, m * 3 + 1, none⟩ = false ∧ W.frozen? ⟨g, m * 3 + 2, none⟩ = false) := fun W hW => by
          have OWw := own_below O2.out hW
          exact ⟨⟨_, _, _, far6 hW (far6 b2 q0), far6 hW (far6 b2 q1), far6 hW (far6 b2 q2)⟩, OWw.frozenAt _, OWw.frozenAt _, OWw.frozenAt _⟩
        have CI : Hid (∀ W z, Calls Tryd.prog 45 #[.int .i64 z] W fun e w' => e = .returned (.agg #[.int .i64 1, .int .i64 z, .string ⟨#[]⟩]) ∧ Below W.heap.size W w') := fun W z => c_l10Int z W
        have CB : Hid (∀ W b, Calls Tryd.prog 46 #[.bool b] W fun e w' => e = .returned (.int .i64 (if b then 1 else 0)) ∧ w' = W) := fun W b => c_bit b W
        rw [hm]
        clear hm hT hTT hq tkl f0 f1 f2 b2 A2 T2 hs9 hp
        cases k1 : (T.k == 1)
        · have D : decB 13 T.k T.n = false := by unfold decB; rw [k1]; rfl
          have ES := HSD.out
          rw [D] at ES
          simp only [Bool.false_eq_true, if_false] at ES
          have HN0 := HNX.out
          have IN0 := HIN.out
          rw [ES] at HN0 IN0
          dsimp only at HN0 IN0
          rw [if_pos rfl] at HN0
          have HNr : Hid (runR L n i u v g0 S (k + 1) = R) := HN0
          have INr : Hid (InR n ds S (k + 1)) := IN0.1
          have kn' := INr.out.kn
          clear HN0 IN0 ES D HSD HNX HIN FA CI CB
          --@j6_1
          go_wp2
          go_roundw
          case rel => exact ⟨S, k + 1, g0, _, cap, (by rw [HM.out]), by go_num, O2, INr, L2, by omega, HNr⟩
          case measure => simp [intOf]; omega
          --@@
        cases n0 : (T.n == 0)
        · have D : decB 13 T.k T.n = true := by unfold decB; rw [k1]; simp [n0, bne]
          have ES := HSD.out
          rw [D] at ES
          simp only [if_true] at ES
          have HN0 := HNX.out
          have IN0 := HIN.out
          rw [ES] at HN0 IN0
          dsimp only at HN0 IN0
          rw [if_pos rfl] at HN0
          have HNr : Hid (runR L n i u v g0 (S.dropLast ++ [(⟨1, trI ((13 : Int) == 13), ⟨#[]⟩⟩ : SV)]) p = R) := HN0
          have INr : Hid (InR n ds (S.dropLast ++ [(⟨1, trI ((13 : Int) == 13), ⟨#[]⟩⟩ : SV)]) p) := IN0.1
          have lt' := IN0.2
          have kn' := INr.out.kn
          have hvp : vp = (p : Int) := HP.out
          subst hvp
          have E7 : (p : Int) - 1 + 1 = (p : Int) := by omega
          clear HN0 IN0 ES D HSD HNX HIN HP
          --@j6_2
          go_wp2_with (first | (go_at_call 46; refine (CB.out _ _).mono ?_; rintro e w2 ⟨rfl, rfl⟩))
          refine (CI.out _ _).mono ?_
          rintro e w2 ⟨rfl, hb2⟩
          obtain ⟨⟨u0, u1, u2, r0, r1, r2⟩, v0, v1, v2⟩ := FA.out w2 hb2
          have O3 := own_below O2.out hb2
          have L3 : LowB B B V w2 := L2.out.trans (LowB.of hb2 lB2)
          rw [HM.out] at O3
          have O4 := own_putC O3 m (⟨1, trI ((13 : Int) == 13), ⟨#[]⟩⟩ : SV) (by have := HM.out; omega)
          rw [set_snoc HM.out] at O4
          obtain ⟨W3, hW3⟩ : ∃ W, ((w2.setCell ⟨g, m * 3, none⟩ (.int .i64 1)).setCell ⟨g, m * 3 + 1, none⟩ (.int .i64 1)).setCell ⟨g, m * 3 + 2, none⟩ (.string ⟨#[]⟩) = W := ⟨_, rfl⟩
          have Or3 : Hid (W3.ownsRow B 29 3 (.slice (some ⟨g, 0, none⟩) (m + 1) cap) (m + 1) (cellsC (S.dropLast ++ [(⟨1, trI ((13 : Int) == 13), ⟨#[]⟩⟩ : SV)]))) := by unfold Hid; rw [← hW3]; exact O4
          have Lr : Hid (LowB B B V W3) := by unfold Hid; rw [← hW3]; exact ((L3.set _ _ (.inr (by show B ≤ g; omega))).set _ _ (.inr (by show B ≤ g; omega))).set _ _ (.inr (by show B ≤ g; omega))
          have HS2 : Hid ((S.dropLast ++ [(⟨1, trI ((13 : Int) == 13), ⟨#[]⟩⟩ : SV)]).length = m + 1) := by unfold Hid; simp [HM.out]
          have a1' : w2.cell? ⟨wr.heap.size, 1, none⟩ = some (.int .i64 (p : Int)) := far6 hb2 a1
          have a1'' : W3.cell? ⟨wr.heap.size, 1, none⟩ = some (.int .i64 (p : Int)) := by
            rw [← hW3, World.cell?_of_block (Below.heap_setCell _ _ _ _ (by show wr.heap.size ≠ g; omega)), World.cell?_of_block (Below.heap_setCell _ _ _ _ (by show wr.heap.size ≠ g; omega)), World.cell?_of_block (Below.heap_setCell _ _ _ _ (by show wr.heap.size ≠ g; omega))]
            exact a1'
          clear O3 O4 L3 hb2 q0 q1 q2 y0 y1 y2 y3 y4 a0 a1 a2 a3 a4 c0 c1 c2 FA CI CB
          go_wp2
          go_roundw
          case rel => exact ⟨S.dropLast ++ [(⟨1, trI ((13 : Int) == 13), ⟨#[]⟩⟩ : SV)], p, g0, _, cap, (by rw [HS2.out]), (by first | rfl | go_num), (by unfold Hid; rw [HS2.out]; exact Or3.out), INr, Lr, by omega, HNr⟩
          case measure => simp [intOf]; omega
          --@@
        · have D : decB 13 T.k T.n = false := by unfold decB; rw [k1, n0]; simp [bne, n0]
          have ES := HSD.out
          rw [D] at ES
          simp only [Bool.false_eq_true, if_false] at ES
          have HN0 := HNX.out
          have IN0 := HIN.out
          rw [ES] at HN0 IN0
          dsimp only at HN0 IN0
          rw [if_pos rfl] at HN0
          have HNr : Hid (runR L n i u v g0 S (k + 1) = R) := HN0
          have INr : Hid (InR n ds S (k + 1)) := IN0.1
          have kn' := INr.out.kn
          clear HN0 IN0 ES D HSD HNX HIN FA CI CB
          --@j6_3
          go_wp2
          go_roundw
          case rel => exact ⟨S, k + 1, g0, _, cap, (by rw [HM.out]), by go_num, O2, INr, L2, by omega, HNr⟩
          case measure => simp [intOf]; omega
          --@@
      exact absurd JV.out.1 (by omega)
    · have e : k = n := by omega
      subst e
      have ER : Hid (R = ⟨(lastS S).k, (lastS S).n, (lastS S).t, 0⟩) := run_end (by omega) HE.out
      have hl1 : S.length = 1 := by have q1 := IR.out.l; have q2 := HDS.out.e; omega
      obtain ⟨g, rfl, hBg, hgl, hq⟩ := own_top O0.out (by omega)
      obtain ⟨q0, q1, q2, _, _, _⟩ := hq 0 (by omega)
      have hT : lastS S = S.getD 0 zeroC := by unfold lastS; rw [hl1]
      rw [← hT] at q0 q1 q2
      obtain ⟨T, hTT⟩ : ∃ T, lastS S = T := ⟨_, rfl⟩
      rw [hTT] at q0 q1 q2 ER
      have Z3 : Box wr (w.heap.size + 1) 29 #[.int .i64 0, .int .i64 0, .string ⟨#[]⟩] := LW.out.box ZV.out (by omega) (by omega)
      obtain ⟨z0, z1, z2⟩ := box3 Z3
      have t0 := Z3.thaw 0
      have t1 := Z3.thaw 1
      have t2 := Z3.thaw 2
      have HZ : Hid (Box wr (w.heap.size + 1) 29 #[.int .i64 0, .int .i64 0, .string ⟨#[]⟩]) := Z3
      have HL1 : Hid (S.length = 1) := hl1
      rw [hl1]
      clear Z3 hq hT hTT hl1
      --@e
      go_wp2
      refine ret32 Tryd.results24 rfl rfl rfl (put3_box HZ.out _ _ _) ⟨by rw [ER.out]; rfl, ?_⟩
      exact put3_below (BVw.out.trans (LW.out.below (by omega) (by omega))) (by omega) _ _ _
      --@@

end Go.Proofs.YtcgcaomaofppiaaDoor
