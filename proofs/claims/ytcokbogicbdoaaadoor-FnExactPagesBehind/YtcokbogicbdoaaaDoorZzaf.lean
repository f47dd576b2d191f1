/-
  Bytes with their sum behind: the specification's own.
-/
import Derived.Test.YtcokbogicbdoaaaDoorZzad
import Derived.ChangeKeysEq
import Derived.Laws.StructEq
import Derived.Test.YtcokbogicbdoaaaDoorRoq
import Derived.Test.YtcokbogicbdoaaaDoorZzae
namespace Go.Proofs.YtcokbogicbdoaaaDoor
open Go Go.RowKit

theorem eq4 (W : World) (a0 a1 a2 a3 b0 b1 b2 b3 : Int) : (Op.equalIn 10000 132 (.agg #[.int .u8 a0, .int .u8 a1, .int .u8 a2, .int .u8 a3]) (.agg #[.int .u8 b0, .int .u8 b1, .int .u8 b2, .int .u8 b3])).run Tryd.prog W = .ok (a0 == b0 && (a1 == b1 && (a2 == b2 && a3 == b3))) W := by
  obtain ⟨i0, hi, _⟩ := info_parts infoB
  rw [run_equalIn_array W 9999 _ _ Tryd.underlying132 hi]
  have hc : Tryd.prog.cellsOf 5 = 1 := by kernel_rfl
  have hr : List.range 4 = [0, 1, 2, 3] := rfl
  rw [hc, hr]
  cases h0 : (a0 == b0) <;> cases h1 : (a1 == b1) <;> cases h2 : (a2 == b2) <;> cases h3 : (a3 == b3)
  all_goals simp [Op.eqItems, part, go_sem, h0, h1, h2, h3]
end Go.Proofs.YtcokbogicbdoaaaDoor
namespace Go.Proofs.YtcokbogicbdoaaaDoor
open Go Go.RowKit
attribute [local go_sem ↓] Go.wp_at_zero Go.wp_at_succ


end Go.Proofs.YtcokbogicbdoaaaDoor
namespace Go.Proofs.YtcokbogicbdoaaaDoor
open Go Go.RowKit
attribute [local go_sem ↓] Go.wp_at_zero Go.wp_at_succ


theorem rc1_size {zs r : List Int} {ps : List (Int × Int)} (h : rc1 zs = some (ps, r)) : zs.length = 1 + 2 * ps.length + r.length := by
  cases zs with
  | nil => simp [rc1] at h
  | cons z t =>
    simp only [rc1] at h
    split at h
    · cases h
    · rename_i hl
      simp only [Option.some.injEq, Prod.mk.injEq] at h
      obtain ⟨rfl, rfl⟩ := h
      rw [prs_len, List.length_drop]
      simp
      omega
theorem rc2_size {zs : List Int} {ps ts : List (Int × Int)} (h : rc2 zs = some (ps, ts)) : zs.length = 2 + 2 * ps.length + 2 * ts.length := by
  unfold rc2 at h
  cases h1 : rc1 zs with
  | none => rw [h1] at h; cases h
  | some x =>
    obtain ⟨qs, r⟩ := x
    rw [h1] at h
    simp only at h
    cases h2 : rc1 r with
    | none => rw [h2] at h; cases h
    | some y =>
      obtain ⟨us, r'⟩ := y
      rw [h2] at h
      simp only at h
      split at h
      · rename_i hr
        simp only [Option.some.injEq, Prod.mk.injEq] at h
        obtain ⟨rfl, rfl⟩ := h
        have := rc1_size h1
        have := rc1_size h2
        rw [hr] at this
        simp at this
        omega
      · cases h
theorem ckB_size {a : ByteArray} {l : Int} (h : ckB (numsT a) l = true) : a.size ≤ 38 := by
  unfold ckB at h
  cases hr : rc2 (numsT a) with
  | none => rw [hr] at h; cases h
  | some x =>
    obtain ⟨ps, ts⟩ := x
    rw [hr] at h
    simp only [Bool.and_eq_true, decide_eq_true_eq] at h
    have h1 := rg_len ps 0 7 l h.2.1 (by omega)
    have h2 := rc2_size hr
    rw [nums_len] at h2
    omega
theorem lr_fit {e l t k p n g s : Int} {b a : ByteArray} (h : okLR ⟨e, l, t, k, p, n, g, s, b, a⟩ = true) : (0 ≤ e ∧ e < 256) ∧ (0 ≤ l ∧ l < 256) ∧ (0 ≤ t ∧ t < 256) ∧ (0 ≤ k ∧ k < 256) ∧ (0 ≤ p ∧ p < 256) ∧ (0 ≤ n ∧ n < 256) ∧ (0 ≤ g ∧ g < 256) ∧ (0 ≤ s ∧ s < 256) ∧ b.size ≤ 30 ∧ a.size ≤ 38 := by
  rw [← okLS_eq] at h
  unfold okLS at h
  split at h
  case isFalse => cases h
  rename_i hc
  simp only [inB, Bool.and_eq_true, decide_eq_true_eq] at hc
  split at h
  · simp only [Bool.and_eq_true, decide_eq_true_eq] at h
    have := ckB_size h.2
    omega
  · split at h
    case isFalse => cases h
    rename_i hd
    simp only [inB, Bool.and_eq_true, decide_eq_true_eq] at hd
    omega
def rbZ (D : DR) : List Int := [108, D.e, D.l, D.t, D.k, D.p, D.n, D.g, D.s] ++ fbZ [D.b, D.a] 2 2
def rbR (D : DR) : List Int := if okLR D then rbZ D ++ sumZ (Crc.crc (rbZ D) : Nat) else []
def rbC (D : DR) : Int := if okLR D then 0 else 1
theorem rb1 {D : DR} (h : okLR D = false) : rbC D = 1 ∧ rbR D = [] := by unfold rbC rbR; rw [h]; exact ⟨rfl, rfl⟩
theorem rb0 {D : DR} (h : okLR D = true) : rbC D = 0 ∧ rbR D = rbZ D ++ sumZ (Crc.crc (rbZ D) : Nat) := by unfold rbC rbR; rw [h]; exact ⟨rfl, rfl⟩
theorem ok2 {b a : ByteArray} (h1 : b.size ≤ 255) (h2 : a.size ≤ 255) : okF [b, a] 2 = true := by
  unfold okF
  simp [h1, h2]
theorem fb2_len {b a : ByteArray} : (fbZ [b, a] 2 2).length = 3 + b.size + a.size := by
  unfold fbZ
  simp [strZ]
  omega
theorem fb2_bytes {b a : ByteArray} (h1 : b.size ≤ 255) (h2 : a.size ≤ 255) : ∀ z ∈ fbZ [b, a] 2 2, 0 ≤ z ∧ z < 256 := by
  intro z hz
  unfold fbZ at hz
  rcases List.mem_cons.1 hz with rfl | hz
  · omega
  · obtain ⟨q, hq, hzq⟩ := List.mem_flatten.1 hz
    obtain ⟨x, hx, rfl⟩ := List.mem_map.1 hq
    have hxs : x.size ≤ 255 := by
      have := List.mem_of_mem_take hx
      simp at this
      rcases this with rfl | rfl <;> omega
    rcases List.mem_cons.1 hzq with rfl | hz'
    · omega
    · obtain ⟨y, _, rfl⟩ := List.mem_map.1 hz'
      have := y.toNat_lt
      omega
theorem rb_bytes {e l t k p n g s : Int} {b a : ByteArray} (h : okLR ⟨e, l, t, k, p, n, g, s, b, a⟩ = true) : ∀ z ∈ rbZ ⟨e, l, t, k, p, n, g, s, b, a⟩, 0 ≤ z ∧ z < 256 := by
  have hf := lr_fit h
  intro z hz
  unfold rbZ at hz
  rcases List.mem_append.1 hz with hz | hz
  · simp at hz
    rcases hz with rfl | rfl | rfl | rfl | rfl | rfl | rfl | rfl | rfl <;> omega
  · exact fb2_bytes (b := b) (a := a) (by omega) (by omega) z hz
theorem rb_len {e l t k p n g s : Int} {b a : ByteArray} : (rbZ ⟨e, l, t, k, p, n, g, s, b, a⟩).length = 12 + b.size + a.size := by
  unfold rbZ
  rw [List.length_append, fb2_len]
  simp
  omega
theorem rbR_len {e l t k p n g s : Int} {b a : ByteArray} (h : okLR ⟨e, l, t, k, p, n, g, s, b, a⟩ = true) : (rbR ⟨e, l, t, k, p, n, g, s, b, a⟩).length = 16 + b.size + a.size := by
  rw [(rb0 h).2, List.length_append, rb_len]
  simp [sumZ]
  omega
theorem rbR_fit {e l t k p n g s : Int} {b a : ByteArray} : (rbR ⟨e, l, t, k, p, n, g, s, b, a⟩).length ≤ 1048576 := by
  cases h : okLR ⟨e, l, t, k, p, n, g, s, b, a⟩
  · rw [(rb1 h).2]; simp
  · have := lr_fit h; rw [rbR_len h]; omega
theorem own_capB {w : World} {base e size n m cap : Nat} {a : Option Addr} {xs : List Value} (h : w.ownsRow base e size (.slice a m cap) n xs) : m ≤ cap := by
  rcases h.2 with ⟨hv, h0⟩ | ⟨g, cap', cur, hv, hb, hg, hnc, hcm, hcs, htake⟩
  · cases hv; exact Nat.le_refl _
  · cases hv; exact hnc

end Go.Proofs.YtcokbogicbdoaaaDoor
namespace Go.Proofs.YtcokbogicbdoaaaDoor
open Go Go.RowKit
attribute [local go_sem ↓] Go.wp_at_zero Go.wp_at_succ


def hbZ (n : Int) : List Int := [104, n]
def hbR (n : Int) : List Int := if inB n 0 60 then hbZ n ++ sumZ (Crc.crc (hbZ n) : Nat) else []
def hbC (n : Int) : Int := if inB n 0 60 then 0 else 4
theorem hb4 {n : Int} (h : inB n 0 60 = false) : hbC n = 4 ∧ hbR n = [] := by unfold hbC hbR; rw [h]; exact ⟨rfl, rfl⟩
theorem hb0 {n : Int} (h : inB n 0 60 = true) : hbC n = 0 ∧ hbR n = hbZ n ++ sumZ (Crc.crc (hbZ n) : Nat) := by unfold hbC hbR; rw [h]; exact ⟨rfl, rfl⟩
theorem hb_bytes {n : Int} (h : inB n 0 60 = true) : ∀ z ∈ hbZ n, 0 ≤ z ∧ z < 256 := by
  have h1 : 0 ≤ n ∧ n ≤ 60 := by simpa [inB] using h
  intro z hz
  simp [hbZ] at hz
  rcases hz with rfl | rfl <;> omega
theorem hbR_fit (n : Int) : (hbR n).length ≤ 1048576 := by
  cases h : inB n 0 60
  · rw [(hb4 h).2]; simp
  · rw [(hb0 h).2]; simp [hbZ, sumZ]
end Go.Proofs.YtcokbogicbdoaaaDoor
namespace Go.Proofs.YtcokbogicbdoaaaDoor
open Go Go.RowKit
attribute [local go_sem ↓] Go.wp_at_zero Go.wp_at_succ


set_option maxRecDepth 100000 in
set_option maxHeartbeats 2000000 in
theorem c_sealed (base g L cv : Nat) (zs : List Int) (w : World) (hown : w.ownsRow base 5 1 (.slice (some ⟨g, 0, none⟩) L cv) L (zs.map (Value.int .u8))) (hbase : base ≤ w.heap.size) (hz : ∀ z ∈ zs, 0 ≤ z ∧ z < 256) (hL : L ≤ 60000) (C : Int) (hC : C = (Crc.crc zs : Nat)) :
    Calls Tryd.prog 43 #[.slice (some ⟨g, 0, none⟩) L cv] w fun e w' => (∃ a' c', e = .returned (.slice a' (L + 4) c') ∧ w'.ownsRow base 5 1 (.slice a' (L + 4) c') (L + 4) ((zs ++ sumZ C).map (Value.int .u8))) ∧ Below base w w' := by
  obtain ⟨i0, g9, g90, g91, g92⟩ := info_parts infoB
  have hi : Hid (Tryd.prog.info? 5 = some i0) := g9
  have hz0 : Hid (i0.zero = some (.int .u8 0)) := g90
  have hz1 : Hid (i0.size = 1) := g91
  have hz2 : Hid (i0.bytes = 1) := g92
  clear g9 g90 g91 g92
  have hl := crc_lt zs hz
  have hC0 : 0 ≤ C := by omega
  have hC1 : C < 4294967296 := by omega
  have HO : Hid (w.ownsRow base 5 1 (.slice (some ⟨g, 0, none⟩) L cv) L (zs.map (Value.int .u8))) := hown
  have CK : Hid (Calls Tryd.prog 69 #[.slice (some ⟨g, 0, none⟩) L cv] w fun e w' => e = .returned (.int .i64 C) ∧ w' = w) := by
    rw [hC]
    exact c14 _ L cv zs w (rd_of_V (RdV.own hown) hz) (by omega)
  clear hown hz hl hC
  go_enter Tryd.func43, Tryd.ntmps43
  go_wp2_with fail
  refine CK.out.mono ?_
  rintro e w1 ⟨rfl, hq⟩
  have hq' := hq.symm
  subst hq'
  clear hq CK
  go_wp2_with fail
  refine (c_num4 C w hC0 hC1).mono ?_
  rintro e w2 ⟨g2, c2, rfl, o2, hb⟩
  have B2 : Hid (Below w.heap.size w w2) := hb
  have O2 : Hid (w2.ownsRow w.heap.size 5 1 (.slice (some ⟨g2, 0, none⟩) 4 c2) 4 ((sumZ C).map (Value.int .u8))) := o2
  have HO2 : Hid (w2.ownsRow base 5 1 (.slice (some ⟨g, 0, none⟩) L cv) L (zs.map (Value.int .u8))) := own_below HO.out hb
  have hg : base ≤ g ∧ g < w.heap.size := HO.out.lt g rfl
  clear hb o2 HO
  have q12 := B2.out.size
  go_wp2_with (
    at_builtin; refine app_any _ rfl (.tmp 3) (.tmp 6) 54 rfl base 5 i0 (.int .u8 0) 1 1 Tryd.underlying54 hi.out hz0.out hz1.out hz2.out rfl (by omega) (.slice (some ⟨g, 0, none⟩) L cv) L (zs.map (Value.int .u8)) rfl HO2.out (some ⟨g2, 0, none⟩) 4 c2 ((sumZ C).map (Value.int .u8)) rfl (fun h => by cases h) rfl (fun ad e => by cases e; exact O2.out.cells rfl) (map_one _ (fun _ => rfl) _) (by unfold maxLen; omega) (by omega) (by omega) ?_
    intro a3 c3 w3 ho hg0 hk0
    have hgg : w2.grownBy w3 (some g) := hg0
    have B3 : Hid (Below base w w3) := (B2.out.mono hbase).grown hgg (by omega) (fun k h => by cases h; exact hg.1)
    have O3 : Hid (w3.ownsRow base 5 1 (.slice a3 (L + 4) c3) (L + 4) ((zs ++ sumZ C).map (Value.int .u8))) := by unfold Hid; rw [List.map_append]; exact ho
    clear ho hg0 hk0 hgg)
  go_ret
  exact ⟨⟨a3, c3, rfl, O3.out⟩, B3.out⟩

end Go.Proofs.YtcokbogicbdoaaaDoor
