/-
  LogLinks of the specification.
-/
import Derived.Test.YtimdoaehlciecaaLr
import Derived.Test.YtimdoaehlciecaaRn
import Derived.Deep.QuietTactic
import Derived.BigQuiet
namespace Go.Proofs.Ytimdoaehlciecaa
open Go Go.RowKit
attribute [local go_sem ↓] Go.wp_at_zero Go.wp_at_succ

/-- A block of 61 cells. -/
def ArE (w : World) (B : Nat) (t : TypeId) (g : Nat → Value) : Prop := Box w B t (Array.ofFn fun i : Fin 61 => g i.val)
theorem ArE.cell {w : World} {B : Nat} {t : TypeId} {g : Nat → Value} (h : ArE w B t g) {m : Nat} (hm : m < 61) : w.cell? ⟨B, m, none⟩ = some (g m) := by
  have := Box.cell h m
  rw [this]
  simp [hm]
theorem ArE.set {w : World} {B : Nat} {t : TypeId} {g : Nat → Value} (h : ArE w B t g) {m : Nat} (_ : m < 61) (x : Value) : ArE (w.setCell ⟨B, m, none⟩ x) B t (updN g m x) := by
  have := Box.set h m x
  unfold ArE
  rw [show (Array.ofFn fun i : Fin 61 => updN g m x i.val) = (Array.ofFn fun i : Fin 61 => g i.val).setIfInBounds m x from ?_]
  · exact this
  · apply Array.ext
    · simp
    · intro i h1 h2
      simp at h1
      rw [Array.getElem_setIfInBounds (by simp; omega)]
      by_cases e : m = i
      · subst e; simp [updN]
      · simp [updN, e, Ne.symm e]
theorem updN_map {α β : Type} (φ : α → β) (f : Nat → α) (m : Nat) (x : α) : updN (fun i => φ (f i)) m (φ x) = fun i => φ (updN f m x i) := by
  funext i; unfold updN; split <;> rfl
def ArF (w : World) (B : Nat) (f : Nat → Int) : Prop := ArE w B 3 fun i => .int .i64 (f i)
def ArO (w : World) (B : Nat) (o : Nat → Bool) : Prop := ArE w B 4 fun i => .bool (o i)
theorem ArF.set {w : World} {B : Nat} {f : Nat → Int} (h : ArF w B f) {m : Nat} (hm : m < 61) (x : Int) : ArF (w.setCell ⟨B, m, none⟩ (.int .i64 x)) B (updN f m x) := by
  have := ArE.set h hm (.int .i64 x)
  rw [updN_map (fun y => Value.int .i64 y)] at this
  exact this
theorem ArO.set {w : World} {B : Nat} {f : Nat → Bool} (h : ArO w B f) {m : Nat} (hm : m < 61) (x : Bool) : ArO (w.setCell ⟨B, m, none⟩ (.bool x)) B (updN f m x) := by
  have := ArE.set h hm (.bool x)
  rw [updN_map (fun y => Value.bool y)] at this
  exact this
theorem row_box {w : World} {base e n g : Nat} {xs : List Value} (h : w.ownsRow base e 1 (.slice (some ⟨g, 0, none⟩) n n) n xs) : Box w g e xs.toArray := by
  rcases h.2 with ⟨hv, _⟩ | ⟨g', cap', cur, hv, _, hg, _, _, hcs, htake⟩
  · cases hv
  · simp only [Value.slice.injEq, Option.some.injEq, Addr.mk.injEq] at hv
    obtain ⟨⟨rfl, _⟩, _, rfl⟩ := hv
    have e1 : xs = cur.toList := by rw [← htake]; exact List.take_of_length_le (by simp [hcs])
    unfold Box
    rw [hg, e1]
theorem ar_made (z : Value) (hz : z.cells = #[z]) : ((madeCells z.cells (61 * 1)).toList).toArray = Array.ofFn fun _ : Fin 61 => z := by
  rw [Nat.mul_one, hz, toList_madeCells_one]
  apply Array.ext
  · simp
  · intro i h1 h2; simp only [List.getElem_toArray, List.getElem_replicate, Array.getElem_ofFn]
theorem infoIn : (Try.prog.info? 3).map (fun i => (i.zero, i.size, i.bytes)) = some (some (Value.int .i64 0), 1, 8) := by kernel_rfl
theorem infoBo : (Try.prog.info? 4).map (fun i => (i.zero, i.size, i.bytes)) = some (some (Value.bool false), 1, 1) := by kernel_rfl
set_option maxRecDepth 100000 in
set_option maxHeartbeats 8000000 in
theorem c_links (a : Option Addr) (n cap : Nat) (L : List DR) (w : World) (hr : RdQ w a n L) (hn : n ≤ 60) (H : ∀ j, j < L.length → okLR (L.getD j zeroR) = true ∧ (L.getD j zeroR).l = (j : Int) + 1) :
    Calls Try.prog 24 #[.slice a n cap] w fun e w' => e = .returned (.bool (lnkS L (fun _ => 0) (fun _ => false) L)) ∧ Below w.heap.size w w' := by
  obtain ⟨i0, hi0, hi0a, hi0b, hi0c⟩ := info_parts infoIn
  obtain ⟨i1, hi1, hi1a, hi1b, hi1c⟩ := info_parts infoBo
  have HOK : Hid (∀ j, j < L.length → okLR (L.getD j zeroR) = true ∧ (L.getD j zeroR).l = (j : Int) + 1) := H
  have hl := hr.1
  have RL : Hid (RdQ w a n L) := hr
  clear hr H
  go_enter Try.func24, Try.ntmps24
  go_wp2_with (first | (at_make; refine wpList_make_full _ rfl (.const (.int .i64 61)) (.const (.int .i64 61)) 60 rfl w.heap.size 3 i0 (Value.int .i64 0) 1 Try.underlying60 hi0 hi0a hi0b .i64 .i64 _ _ 61 rfl rfl rfl rfl (by omega) (by unfold maxLen; omega) (Nat.le_refl _) ?_; intro w1 hown hgrow; have B1 : Hid (Below w.heap.size w w1) := (Below.refl _ _).grown hgrow (Nat.le_refl _) (fun k h => by cases h); have A1 : Hid (ArF w1 w.heap.size (fun _ => 0)) := (by have q := row_box hown; rw [ar_made _ rfl] at q; exact q); clear hown hgrow) | (at_make; refine wpList_make_full _ rfl (.const (.int .i64 61)) (.const (.int .i64 61)) 61 rfl w1.heap.size 4 i1 (Value.bool false) 1 Try.underlying61 hi1 hi1a hi1b .i64 .i64 _ _ 61 rfl rfl rfl rfl (by omega) (by unfold maxLen; omega) (Nat.le_refl _) ?_; intro w2 hown hgrow; have b2 : Below w1.heap.size w1 w2 := (Below.refl _ _).grown hgrow (Nat.le_refl _) (fun k h => by cases h); have B2 : Hid (Below w.heap.size w w2) := B1.out.trans (b2.mono B1.out.size); have A2 : Hid (ArF w2 w.heap.size (fun _ => 0)) := Box.belowS A1.out b2; have O2 : Hid (ArO w2 w1.heap.size (fun _ => false)) := (by have q := row_box hown; rw [ar_made _ rfl] at q; exact q); have nb0 : Hid (w.heap.size < w1.heap.size) := A1.out.lt; clear hown hgrow b2 B1 A1))
  clear hi0 hi0a hi0b hi0c hi1 hi1a hi1b hi1c
  go_loopw [5] (fun i wr => ∃ (k : Nat) (f : Nat → Int) (o : Nat → Bool), k ≤ n ∧ i = .int .i64 k ∧ Hid (lnkS L f o (L.drop k) = lnkS L (fun _ => 0) (fun _ => false) L) ∧ Hid (ArF wr w.heap.size f) ∧ Hid (ArO wr w1.heap.size o) ∧ Hid (Below w.heap.size w wr)) (fun i _ => n - (intOf i).toNat)
  case atStart => exact ⟨0, fun _ => 0, fun _ => false, by omega, rfl, rfl, A2, O2, B2⟩
  case round =>
    clear A2 O2 B2
    obtain ⟨k, f, o, hk, rfl, HI, HA, HOo, BW⟩ := hrel
    by_cases hlt : k < n
    · have RQ := RL.out.below BW.out
      obtain ⟨b, off, hla, hbl, hc⟩ := RQ.2 (by omega)
      have hbw : Hid (b < w.heap.size) := by
        obtain ⟨b', off', hla', hbl', _⟩ := RL.out.2 (by omega)
        rw [hla] at hla'
        simp only [Option.some.injEq, Addr.mk.injEq] at hla'
        unfold Hid
        omega
      subst hla
      obtain ⟨⟨ve, vl, vt, vk, vp, vn, vg, vz, vb, va⟩, hv⟩ : ∃ v, v = L.getD k zeroR := ⟨_, rfl⟩
      obtain ⟨e0, e1, e2, e3, e4, e5, e6, e7, e8, e9⟩ := RdQ.at hc hlt hv
      dsimp only at e0 e1 e2 e3 e4 e5 e6 e7 e8 e9
      have HAT := lnkS_at (L := L) (vs := L) (f := f) (o := o) (k := k) (by omega)
      have HO := HOK.out k (by omega)
      rw [← hv] at HAT HO
      have HAT' : Hid (_ = _) := HAT
      have HO' : Hid (_ ∧ _) := HO
      have g1 : (0 : Int) ≤ (k : Int) := by omega
      have g2 : (k : Int) < (n : Int) := by omega
      obtain ⟨W, hW⟩ : ∃ W, wr.alloc (.cells #[.int .i64 ve, .int .i64 vl, .int .i64 vt, .int .i64 vk, .int .i64 vp, .int .i64 vn, .int .i64 vg, .int .i64 vz, .string vb, .string va] 43) = W := ⟨_, rfl⟩
      have hbA : Below wr.heap.size wr W := by rw [← hW]; exact (Below.refl _ _).alloc (Nat.le_refl _) _
      have BX : Hid (Below w.heap.size w W) := BW.out.trans (hbA.mono BW.out.size)
      have TW : Hid (ArF W w.heap.size f) := Box.belowS HA.out hbA
      have OW : Hid (ArO W w1.heap.size o) := Box.belowS HOo.out hbA
      have NW : Hid (Box W wr.heap.size 43 #[.int .i64 ve, .int .i64 vl, .int .i64 vt, .int .i64 vk, .int .i64 vp, .int .i64 vn, .int .i64 vg, .int .i64 vz, .string vb, .string va]) := by unfold Hid; rw [← hW]; exact Box.new _ _ _
      have nb : Hid (w1.heap.size < wr.heap.size) := HOo.out.lt
      clear hc hv HAT HO hbA HA HOo RQ
      obtain ⟨y0, y1, y2, y3, y4, y5, y6, y7, y8, y9⟩ := box10 NW.out
      by_cases k6 : vk = 6
      · have E : Hid (lnkS L f o (L.drop (k + 1)) = lnkS L (fun _ => 0) (fun _ => false) L) := by unfold Hid; rw [← HI.out, HAT'.out, if_pos k6]
        have c1 : (vk == 6) = true := by simpa using k6
        clear HI HAT' HO' NW k6
        go_wp2
        go_roundw
        case rel => exact ⟨k + 1, f, o, by omega, by go_num, E, TW, OW, BX⟩
        case measure => simp [intOf]; omega
      have c1 : (vk == 6) = false := by simpa using k6
      have HT := okLR_t HO'.out.1 k6
      dsimp only at HT
      obtain ⟨m, rfl⟩ : ∃ m : Nat, vt = (m : Int) := ⟨vt.toNat, by omega⟩
      have hm61 : m < 61 := by omega
      have q1 : (0 : Int) ≤ (m : Int) := by omega
      have q2 : (m : Int) < 61 := by omega
      have HN : Hid (0 ≤ vn ∧ vn ≤ (k : Int)) := by
        have h1 := rec_parts HO'.out.1
        have h2 := HO'.out.2
        dsimp only at h1 h2
        rcases h1.2 with ⟨h0, _⟩ | ⟨_, _, h3⟩
        · exact absurd h0 k6
        · unfold Hid; omega
      have HQ : Hid (lnkS L f o (L.drop k) = ((!(o m) && decide (vp = f m)) && (nxtS L ⟨ve, vl, (m : Int), vk, vp, vn, vg, vz, vb, va⟩ && lnkS L (updN f m vl) (updN o m (endK vk)) (L.drop (k + 1))))) := by
        unfold Hid
        rw [HAT'.out, if_neg k6]
        rfl
      have NX : Hid (nxtS L ⟨ve, vl, (m : Int), vk, vp, vn, vg, vz, vb, va⟩ = (!(decide (vk = 3)) || (!(decide (vn = 0)) && decide ((L.getD (vn - 1).toNat zeroR).t = (m : Int))))) := rfl
      have cT := TW.out.cell hm61
      have tT := Box.thaw TW.out m
      have cO := OW.out.cell hm61
      have tO := Box.thaw OW.out m
      clear HAT' HO' HT k6
      cases ho : o m
      case true =>
        have E : Hid (lnkS L (fun _ => 0) (fun _ => false) L = false) := by unfold Hid; rw [← HI.out, HQ.out, ho]; rfl
        rw [ho] at cO
        clear ho HQ NX HI
        go_wp2_with fail
        go_quiet (fail)
        go_wp2
        go_ret
        exact ⟨ret_bool E.out.symm, below_drewN BX.out _⟩
      rw [ho] at cO
      by_cases hp : vp = f m
      case neg =>
        have E : Hid (lnkS L (fun _ => 0) (fun _ => false) L = false) := by unfold Hid; rw [← HI.out, HQ.out, ho, decide_eq_false hp]; rfl
        have c2 : (vp != f m) = true := by simpa using hp
        clear ho HQ NX HI hp
        go_wp2_with fail
        go_quiet (fail)
        go_wp2
        go_ret
        exact ⟨ret_bool E.out.symm, below_drewN BX.out _⟩
      have c2 : (vp != f m) = false := by simpa using hp
      have HP : Hid (vp = f m) := hp
      have HO2 : Hid (o m = false) := ho
      clear hp ho
      go_wp2_with fail
      go_quiet (fail)
      have bD : Below W.heap.size W (W.drewN nq) := below_drewN (Below.refl _ _) nq
      have BD : Hid (Below w.heap.size w (W.drewN nq)) := BX.out.trans (bD.mono BX.out.size)
      have TD : Hid (ArF (W.drewN nq) w.heap.size f) := Box.belowS TW.out bD
      have OD : Hid (ArO (W.drewN nq) w1.heap.size o) := Box.belowS OW.out bD
      have ND : Hid (Box (W.drewN nq) wr.heap.size 43 #[.int .i64 ve, .int .i64 vl, .int .i64 (m : Int), .int .i64 vk, .int .i64 vp, .int .i64 vn, .int .i64 vg, .int .i64 vz, .string vb, .string va]) := NW.out.belowS bD
      clear bD cT cO tT tO y0 y1 y2 y3 y4 y5 y6 y7 y8 y9 e0 e1 e2 e3 e4 e5 e6 e7 e8 e9 hW NW OW TW BX c1 c2
      generalize W.drewN nq = D at *
      obtain ⟨y0, y1, y2, y3, y4, y5, y6, y7, y8, y9⟩ := box10 ND.out
      have cT := TD.out.cell hm61
      have tT := Box.thaw TD.out m
      obtain ⟨D1, hD1⟩ : ∃ Q, D.setCell ⟨w.heap.size, m, none⟩ (.int .i64 vl) = Q := ⟨_, rfl⟩
      have TE : Hid (ArF D1 w.heap.size (updN f m vl)) := by unfold Hid; rw [← hD1]; exact TD.out.set hm61 vl
      have OE : Hid (ArO D1 w1.heap.size o) := by unfold Hid; rw [← hD1]; exact Box.setOther OD.out ⟨w.heap.size, m, none⟩ (.int .i64 vl) (by have := nb0.out; simp; omega)
      have NE : Hid (Box D1 wr.heap.size 43 #[.int .i64 ve, .int .i64 vl, .int .i64 (m : Int), .int .i64 vk, .int .i64 vp, .int .i64 vn, .int .i64 vg, .int .i64 vz, .string vb, .string va]) := by unfold Hid; rw [← hD1]; exact ND.out.setOther ⟨w.heap.size, m, none⟩ (.int .i64 vl) (by have := nb.out; have := nb0.out; simp; omega)
      have BE : Hid (Below w.heap.size w D1) := by unfold Hid; rw [← hD1]; exact BD.out.setCell (Nat.le_refl _) _
      have cO := OE.out.cell hm61
      have tO := Box.thaw OE.out m
      obtain ⟨z0, z1, z2, z3, z4, z5, z6, z7, z8, z9⟩ := box10 NE.out
      clear TD OD ND BD y0 y3 y4 y5 y6 y7 y8 y9 z0 z1 z4 z5 z6 z7 z8 z9
      have H0 : Hid (lnkS L (fun _ => 0) (fun _ => false) L = (nxtS L ⟨ve, vl, (m : Int), vk, vp, vn, vg, vz, vb, va⟩ && lnkS L (updN f m vl) (updN o m (endK vk)) (L.drop (k + 1)))) := by
        unfold Hid
        rw [← HI.out, HQ.out, HO2.out, decide_eq_true HP.out]
        rfl
      clear HQ HI HP
      by_cases k4 : vk = 4
      · have EK : endK vk = true := by rw [k4]; rfl
        have c4 : (vk == 4) = true := by simpa using k4
        have c3 : (vk == 3) = false := by simp; omega
        have E : Hid (lnkS L (updN f m vl) (updN o m true) (L.drop (k + 1)) = lnkS L (fun _ => 0) (fun _ => false) L) := by unfold Hid; rw [H0.out, NX.out, EK, decide_eq_false (show ¬ vk = 3 by omega)]; rfl
        clear k4 EK H0 NX
        obtain ⟨X, hX⟩ : ∃ X, D1.setCell ⟨w1.heap.size, m, none⟩ (.bool true) = X := ⟨_, rfl⟩
        have FX : Hid (ArF X w.heap.size (updN f m vl)) := by unfold Hid; rw [← hX]; exact Box.setOther TE.out ⟨w1.heap.size, m, none⟩ (.bool true) (by have := nb0.out; simp; omega)
        have OX : Hid (ArO X w1.heap.size (updN o m true)) := by unfold Hid; rw [← hX]; exact OE.out.set hm61 _
        have NX2 : Hid (Box X wr.heap.size 43 #[.int .i64 ve, .int .i64 vl, .int .i64 (m : Int), .int .i64 vk, .int .i64 vp, .int .i64 vn, .int .i64 vg, .int .i64 vz, .string vb, .string va]) := by unfold Hid; rw [← hX]; exact NE.out.setOther ⟨w1.heap.size, m, none⟩ (.bool true) (by have := nb.out; simp; omega)
        have BX : Hid (Below w.heap.size w X) := by unfold Hid; rw [← hX]; exact BE.out.setCell (by have := nb0.out; simp; omega) _
        clear TE OE NE BE
        obtain ⟨x0, x1, x2, x3, x4, x5, x6, x7, x8, x9⟩ := box10 NX2.out
        clear NX2
        go_wp2_with fail
        go_quiet (fail)
        have bD : Below X.heap.size X (X.drewN nq) := below_drewN (Below.refl _ _) nq
        have FX2 : Hid (ArF (X.drewN nq) w.heap.size (updN f m vl)) := Box.belowS FX.out bD
        have OX2 : Hid (ArO (X.drewN nq) w1.heap.size (updN o m true)) := Box.belowS OX.out bD
        have BX2 : Hid (Below w.heap.size w (X.drewN nq)) := BX.out.trans (bD.mono BX.out.size)
        clear bD FX OX BX hX x0 x1 x2 x3 x4 x5 x6 x7 x8 x9 y1 y2 z2 z3 hD1 cT tT cO tO
        generalize X.drewN nq = D2 at *
        go_wp2
        go_roundw
        case rel => exact ⟨k + 1, updN f m vl, updN o m true, by omega, by go_num, E, FX2, OX2, BX2⟩
        case measure => simp [intOf]; omega
      have c4 : (vk == 4) = false := by simpa using k4
      by_cases k5 : vk = 5
      · have EK : endK vk = true := by rw [k5]; rfl
        have c5 : (vk == 5) = true := by simpa using k5
        have c3 : (vk == 3) = false := by simp; omega
        have E : Hid (lnkS L (updN f m vl) (updN o m true) (L.drop (k + 1)) = lnkS L (fun _ => 0) (fun _ => false) L) := by unfold Hid; rw [H0.out, NX.out, EK, decide_eq_false (show ¬ vk = 3 by omega)]; rfl
        clear k4 k5 EK H0 NX
        obtain ⟨X, hX⟩ : ∃ X, D1.setCell ⟨w1.heap.size, m, none⟩ (.bool true) = X := ⟨_, rfl⟩
        have FX : Hid (ArF X w.heap.size (updN f m vl)) := by unfold Hid; rw [← hX]; exact Box.setOther TE.out ⟨w1.heap.size, m, none⟩ (.bool true) (by have := nb0.out; simp; omega)
        have OX : Hid (ArO X w1.heap.size (updN o m true)) := by unfold Hid; rw [← hX]; exact OE.out.set hm61 _
        have NX2 : Hid (Box X wr.heap.size 43 #[.int .i64 ve, .int .i64 vl, .int .i64 (m : Int), .int .i64 vk, .int .i64 vp, .int .i64 vn, .int .i64 vg, .int .i64 vz, .string vb, .string va]) := by unfold Hid; rw [← hX]; exact NE.out.setOther ⟨w1.heap.size, m, none⟩ (.bool true) (by have := nb.out; simp; omega)
        have BX : Hid (Below w.heap.size w X) := by unfold Hid; rw [← hX]; exact BE.out.setCell (by have := nb0.out; simp; omega) _
        clear TE OE NE BE
        obtain ⟨x0, x1, x2, x3, x4, x5, x6, x7, x8, x9⟩ := box10 NX2.out
        clear NX2
        go_wp2_with fail
        go_quiet (fail)
        have bD : Below X.heap.size X (X.drewN nq) := below_drewN (Below.refl _ _) nq
        have FX2 : Hid (ArF (X.drewN nq) w.heap.size (updN f m vl)) := Box.belowS FX.out bD
        have OX2 : Hid (ArO (X.drewN nq) w1.heap.size (updN o m true)) := Box.belowS OX.out bD
        have BX2 : Hid (Below w.heap.size w (X.drewN nq)) := BX.out.trans (bD.mono BX.out.size)
        clear bD FX OX BX hX x0 x1 x2 x3 x4 x5 x6 x7 x8 x9 y1 y2 z2 z3 hD1 cT tT cO tO
        generalize X.drewN nq = D2 at *
        go_wp2
        go_roundw
        case rel => exact ⟨k + 1, updN f m vl, updN o m true, by omega, by go_num, E, FX2, OX2, BX2⟩
        case measure => simp [intOf]; omega
      have c5 : (vk == 5) = false := by simpa using k5
      have EK : Hid (endK vk = false) := by unfold Hid endK; rw [decide_eq_false k4, decide_eq_false k5]; rfl
      clear k4 k5
      by_cases k3 : vk = 3
      case neg =>
        have c3 : (vk == 3) = false := by simpa using k3
        have E : Hid (lnkS L (updN f m vl) (updN o m false) (L.drop (k + 1)) = lnkS L (fun _ => 0) (fun _ => false) L) := by unfold Hid; rw [H0.out, NX.out, EK.out, decide_eq_false k3]; rfl
        clear k3 H0 NX EK
        obtain ⟨X, hX⟩ : ∃ X, D1.setCell ⟨w1.heap.size, m, none⟩ (.bool false) = X := ⟨_, rfl⟩
        have FX : Hid (ArF X w.heap.size (updN f m vl)) := by unfold Hid; rw [← hX]; exact Box.setOther TE.out ⟨w1.heap.size, m, none⟩ (.bool false) (by have := nb0.out; simp; omega)
        have OX : Hid (ArO X w1.heap.size (updN o m false)) := by unfold Hid; rw [← hX]; exact OE.out.set hm61 _
        have NX2 : Hid (Box X wr.heap.size 43 #[.int .i64 ve, .int .i64 vl, .int .i64 (m : Int), .int .i64 vk, .int .i64 vp, .int .i64 vn, .int .i64 vg, .int .i64 vz, .string vb, .string va]) := by unfold Hid; rw [← hX]; exact NE.out.setOther ⟨w1.heap.size, m, none⟩ (.bool false) (by have := nb.out; simp; omega)
        have BX : Hid (Below w.heap.size w X) := by unfold Hid; rw [← hX]; exact BE.out.setCell (by have := nb0.out; simp; omega) _
        clear TE OE NE BE
        obtain ⟨x0, x1, x2, x3, x4, x5, x6, x7, x8, x9⟩ := box10 NX2.out
        clear NX2
        go_wp2_with fail
        go_quiet (fail)
        have bD : Below X.heap.size X (X.drewN nq) := below_drewN (Below.refl _ _) nq
        have FX2 : Hid (ArF (X.drewN nq) w.heap.size (updN f m vl)) := Box.belowS FX.out bD
        have OX2 : Hid (ArO (X.drewN nq) w1.heap.size (updN o m false)) := Box.belowS OX.out bD
        have BX2 : Hid (Below w.heap.size w (X.drewN nq)) := BX.out.trans (bD.mono BX.out.size)
        clear bD FX OX BX hX x0 x1 x2 x3 x4 x5 x6 x7 x8 x9 y1 y2 z2 z3 hD1 cT tT cO tO
        generalize X.drewN nq = D2 at *
        go_wp2
        go_roundw
        case rel => exact ⟨k + 1, updN f m vl, updN o m false, by omega, by go_num, E, FX2, OX2, BX2⟩
        case measure => simp [intOf]; omega
      have c3 : (vk == 3) = true := by simpa using k3
      by_cases n0 : vn = 0
      · have c6 : (vn == 0) = true := by simpa using n0
        have E : Hid (lnkS L (fun _ => 0) (fun _ => false) L = false) := by unfold Hid; rw [H0.out, NX.out, decide_eq_true k3, decide_eq_true n0]; rfl
        clear k3 n0 H0 NX EK
        obtain ⟨X, hX⟩ : ∃ X, D1.setCell ⟨w1.heap.size, m, none⟩ (.bool false) = X := ⟨_, rfl⟩
        have FX : Hid (ArF X w.heap.size (updN f m vl)) := by unfold Hid; rw [← hX]; exact Box.setOther TE.out ⟨w1.heap.size, m, none⟩ (.bool false) (by have := nb0.out; simp; omega)
        have OX : Hid (ArO X w1.heap.size (updN o m false)) := by unfold Hid; rw [← hX]; exact OE.out.set hm61 _
        have NX2 : Hid (Box X wr.heap.size 43 #[.int .i64 ve, .int .i64 vl, .int .i64 (m : Int), .int .i64 vk, .int .i64 vp, .int .i64 vn, .int .i64 vg, .int .i64 vz, .string vb, .string va]) := by unfold Hid; rw [← hX]; exact NE.out.setOther ⟨w1.heap.size, m, none⟩ (.bool false) (by have := nb.out; simp; omega)
        have BX : Hid (Below w.heap.size w X) := by unfold Hid; rw [← hX]; exact BE.out.setCell (by have := nb0.out; simp; omega) _
        clear TE OE NE BE
        obtain ⟨x0, x1, x2, x3, x4, x5, x6, x7, x8, x9⟩ := box10 NX2.out
        clear NX2
        go_wp2_with fail
        go_quiet (fail)
        go_wp2
        go_ret
        exact ⟨ret_bool E.out.symm, below_drewN BX.out _⟩
      have c6 : (vn == 0) = false := by simpa using n0
      obtain ⟨j, rfl⟩ : ∃ j : Nat, vn = (j : Int) + 1 := ⟨(vn - 1).toNat, by have := HN.out; omega⟩
      have hjn : j < n := by have := HN.out; omega
      obtain ⟨⟨se, sl, su, sk, sp, sn, sg, sz, sb, sa⟩, hv⟩ : ∃ v, v = L.getD j zeroR := ⟨_, rfl⟩
      have RD := RL.out.2 (by omega)
      obtain ⟨b', off', hla', hbl', hc⟩ := RD
      simp only [Option.some.injEq, Addr.mk.injEq] at hla'
      obtain ⟨rfl, rfl, _⟩ := hla'
      obtain ⟨_, _, d2, _, _, _, _, _, _, _⟩ := RdQ.at hc hjn hv
      dsimp only at d2
      have H1 : Hid (lnkS L (fun _ => 0) (fun _ => false) L = (decide (su = (m : Int)) && lnkS L (updN f m vl) (updN o m false) (L.drop (k + 1)))) := by
        unfold Hid
        rw [H0.out, NX.out, decide_eq_true k3, decide_eq_false n0, EK.out, show ((j : Int) + 1 - 1).toNat = j by omega, ← hv]
        rfl
      have g3 : (0 : Int) ≤ (j : Int) := by omega
      have g4 : (j : Int) < (n : Int) := by omega
      clear k3 n0 H0 NX EK hc hv hbl'
      by_cases tt : su = (m : Int)
      · have c7 : (su != (m : Int)) = false := by simpa using tt
        have E : Hid (lnkS L (updN f m vl) (updN o m false) (L.drop (k + 1)) = lnkS L (fun _ => 0) (fun _ => false) L) := by unfold Hid; rw [H1.out, decide_eq_true tt]; rfl
        clear tt H1
        obtain ⟨X, hX⟩ : ∃ X, D1.setCell ⟨w1.heap.size, m, none⟩ (.bool false) = X := ⟨_, rfl⟩
        have FX : Hid (ArF X w.heap.size (updN f m vl)) := by unfold Hid; rw [← hX]; exact Box.setOther TE.out ⟨w1.heap.size, m, none⟩ (.bool false) (by have := nb0.out; simp; omega)
        have OX : Hid (ArO X w1.heap.size (updN o m false)) := by unfold Hid; rw [← hX]; exact OE.out.set hm61 _
        have NX2 : Hid (Box X wr.heap.size 43 #[.int .i64 ve, .int .i64 vl, .int .i64 (m : Int), .int .i64 vk, .int .i64 vp, .int .i64 ((j : Int) + 1), .int .i64 vg, .int .i64 vz, .string vb, .string va]) := by unfold Hid; rw [← hX]; exact NE.out.setOther ⟨w1.heap.size, m, none⟩ (.bool false) (by have := nb.out; simp; omega)
        have BX : Hid (Below w.heap.size w X) := by unfold Hid; rw [← hX]; exact BE.out.setCell (by have := nb0.out; simp; omega) _
        clear TE OE NE BE
        obtain ⟨x0, x1, x2, x3, x4, x5, x6, x7, x8, x9⟩ := box10 NX2.out
        have x10 : X.cell? ⟨b, off + j * 10 + 2, none⟩ = some (.int .i64 su) := (BX.out.cell (p := ⟨b, off + j * 10 + 2, none⟩) hbw.out).trans d2
        clear d2
        clear NX2
        go_wp2_with fail
        go_quiet (fail)
        have bD : Below X.heap.size X (X.drewN nq) := below_drewN (Below.refl _ _) nq
        have FX2 : Hid (ArF (X.drewN nq) w.heap.size (updN f m vl)) := Box.belowS FX.out bD
        have OX2 : Hid (ArO (X.drewN nq) w1.heap.size (updN o m false)) := Box.belowS OX.out bD
        have BX2 : Hid (Below w.heap.size w (X.drewN nq)) := BX.out.trans (bD.mono BX.out.size)
        clear bD FX OX BX hX x0 x1 x2 x3 x4 x5 x6 x7 x8 x9 y1 y2 z2 z3 hD1 cT tT cO tO
        generalize X.drewN nq = D2 at *
        go_wp2
        go_roundw
        case rel => exact ⟨k + 1, updN f m vl, updN o m false, by omega, by go_num, E, FX2, OX2, BX2⟩
        case measure => simp [intOf]; omega
      · have c7 : (su != (m : Int)) = true := by simpa using tt
        have E : Hid (lnkS L (fun _ => 0) (fun _ => false) L = false) := by unfold Hid; rw [H1.out, decide_eq_false tt]; rfl
        clear tt H1
        obtain ⟨X, hX⟩ : ∃ X, D1.setCell ⟨w1.heap.size, m, none⟩ (.bool false) = X := ⟨_, rfl⟩
        have FX : Hid (ArF X w.heap.size (updN f m vl)) := by unfold Hid; rw [← hX]; exact Box.setOther TE.out ⟨w1.heap.size, m, none⟩ (.bool false) (by have := nb0.out; simp; omega)
        have OX : Hid (ArO X w1.heap.size (updN o m false)) := by unfold Hid; rw [← hX]; exact OE.out.set hm61 _
        have NX2 : Hid (Box X wr.heap.size 43 #[.int .i64 ve, .int .i64 vl, .int .i64 (m : Int), .int .i64 vk, .int .i64 vp, .int .i64 ((j : Int) + 1), .int .i64 vg, .int .i64 vz, .string vb, .string va]) := by unfold Hid; rw [← hX]; exact NE.out.setOther ⟨w1.heap.size, m, none⟩ (.bool false) (by have := nb.out; simp; omega)
        have BX : Hid (Below w.heap.size w X) := by unfold Hid; rw [← hX]; exact BE.out.setCell (by have := nb0.out; simp; omega) _
        clear TE OE NE BE
        obtain ⟨x0, x1, x2, x3, x4, x5, x6, x7, x8, x9⟩ := box10 NX2.out
        have x10 : X.cell? ⟨b, off + j * 10 + 2, none⟩ = some (.int .i64 su) := (BX.out.cell (p := ⟨b, off + j * 10 + 2, none⟩) hbw.out).trans d2
        clear d2
        clear NX2
        go_wp2_with fail
        go_quiet (fail)
        go_wp2
        go_ret
        exact ⟨ret_bool E.out.symm, below_drewN BX.out _⟩
    · have e : k = n := by omega
      subst e
      have E : Hid (lnkS L (fun _ => 0) (fun _ => false) L = true) := by unfold Hid; rw [← HI.out, List.drop_eq_nil_of_le (by omega)]; rfl
      go_wp2
      go_ret
      exact ⟨ret_bool E.out.symm, BW.out⟩

end Go.Proofs.Ytimdoaehlciecaa
