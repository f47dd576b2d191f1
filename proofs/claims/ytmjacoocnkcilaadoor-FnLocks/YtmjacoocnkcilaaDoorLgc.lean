/-
  leadRound.
-/
import Derived.Test.YtmjacoocnkcilaaDoorLgb
import Derived.Deep.RegionWith
import Derived.Deep.DeepCutAuto
namespace Go.Proofs.YtmjacoocnkcilaaDoor
open Go Go.RowKit
attribute [local go_sem ↓] Go.wp_at_zero Go.wp_at_succ

set_option maxRecDepth 100000 in
set_option maxHeartbeats 8000000 in
theorem c_lead (a : Option Addr) (n cap : Nat) (ws : List WK) (x : Nat) (w : World) (hr : RdW w a n ws) (hn : n ≤ 1048576) (hall : ws.all okW = true) (hx : 1 ≤ x ∧ x ≤ 60) (hz : TabZ w) :
    Calls Tryd.prog 65 #[.slice a n cap, .int .i64 (x : Int)] w fun e w' => (∃ b : Bool, e = .returned (.bool b) ∧ (b = true ↔ Rch ws x x)) ∧ Below w.heap.size w w' := by
  have HZ : Hid (TabZ w) := hz
  obtain ⟨hl, hcs⟩ := hr
  have HALL : Hid (ws.all okW = true) := hall
  have HK : Hid (∀ k, k < n → okW (ws.getD k dW) = true) := fun k hk => List.all_eq_true.1 hall _ (by have hk' : k < ws.length := by omega
                                                                                                      rw [List.getD_eq_getElem?_getD, List.getElem?_eq_getElem hk']; exact List.getElem_mem hk')
  obtain ⟨V, hV⟩ : ∃ V, w.alloc (.cells #[.int .u64 0, .int .u64 0, .int .u64 0, .int .u64 0, .int .u64 0, .int .u64 0, .int .u64 0, .int .u64 0, .int .u64 0, .int .u64 0, .int .u64 0, .int .u64 0, .int .u64 0, .int .u64 0, .int .u64 0, .int .u64 0, .int .u64 0, .int .u64 0, .int .u64 0, .int .u64 0, .int .u64 0, .int .u64 0, .int .u64 0, .int .u64 0, .int .u64 0, .int .u64 0, .int .u64 0, .int .u64 0, .int .u64 0, .int .u64 0, .int .u64 0, .int .u64 0, .int .u64 0, .int .u64 0, .int .u64 0, .int .u64 0, .int .u64 0, .int .u64 0, .int .u64 0, .int .u64 0, .int .u64 0, .int .u64 0, .int .u64 0, .int .u64 0, .int .u64 0, .int .u64 0, .int .u64 0, .int .u64 0, .int .u64 0, .int .u64 0, .int .u64 0, .int .u64 0, .int .u64 0, .int .u64 0, .int .u64 0, .int .u64 0, .int .u64 0, .int .u64 0, .int .u64 0, .int .u64 0, .int .u64 0] 106) = V := ⟨_, rfl⟩
  have HBV : Hid (Below w.heap.size w V) := by unfold Hid; rw [← hV]; exact (Below.refl _ _).alloc (Nat.le_refl _) _
  have N0 : Hid (Box V w.heap.size 106 (cN (fun _ => 0#64))) := by unfold Hid; rw [← hV, show cN (fun _ => 0#64) = #[.int .u64 0, .int .u64 0, .int .u64 0, .int .u64 0, .int .u64 0, .int .u64 0, .int .u64 0, .int .u64 0, .int .u64 0, .int .u64 0, .int .u64 0, .int .u64 0, .int .u64 0, .int .u64 0, .int .u64 0, .int .u64 0, .int .u64 0, .int .u64 0, .int .u64 0, .int .u64 0, .int .u64 0, .int .u64 0, .int .u64 0, .int .u64 0, .int .u64 0, .int .u64 0, .int .u64 0, .int .u64 0, .int .u64 0, .int .u64 0, .int .u64 0, .int .u64 0, .int .u64 0, .int .u64 0, .int .u64 0, .int .u64 0, .int .u64 0, .int .u64 0, .int .u64 0, .int .u64 0, .int .u64 0, .int .u64 0, .int .u64 0, .int .u64 0, .int .u64 0, .int .u64 0, .int .u64 0, .int .u64 0, .int .u64 0, .int .u64 0, .int .u64 0, .int .u64 0, .int .u64 0, .int .u64 0, .int .u64 0, .int .u64 0, .int .u64 0, .int .u64 0, .int .u64 0, .int .u64 0, .int .u64 0] from rfl]; exact Box.new _ _ _
  have CX : Hid (∀ (W : World) (y : Int), 0 ≤ y → y < 64 → Calls Tryd.prog 88 #[.int .i64 y] W fun e w' => e = .returned (uV (bitT y)) ∧ w' = W) := fun W y h0 h1 => c_setOf y W h0 h1
  have HLN : Hid (ws.length = n) := hl
  clear hz hall hl
  go_enter Tryd.func65, Tryd.ntmps65
  go_wp2
  go_loopw [13] (fun s wr => ∃ k : Nat, k ≤ n ∧ s = .int .i64 (k : Int) ∧ Hid (Box wr w.heap.size 106 (cN (nx ws k))) ∧ Hid (Below w.heap.size w wr)) (fun s _ => n - (intOf s).toNat)
  case atStart => exact ⟨0, by omega, rfl, N0, HBV⟩
  case round =>
    obtain ⟨k, hk, rfl, HN, HB⟩ := hrel
    by_cases hlt : k < n
    · obtain ⟨ba, off, ha, hbl, hc⟩ := hcs (by omega)
      subst ha
      have hok := HK.out k hlt
      have hst := nx_step ws k (by have := HLN.out; omega)
      obtain ⟨⟨vx, vf⟩, hv⟩ : ∃ v, v = ws.getD k dW := ⟨_, rfl⟩
      obtain ⟨d0, d1⟩ := hc k hlt
      rw [← hv] at d0 d1 hok hst
      have hbd := okW_bounds hok
      simp only at hbd
      obtain ⟨j, hj⟩ : ∃ j : Nat, vx = (j : Int) := ⟨vx.toNat, by omega⟩
      subst hj
      have e0 : wr.cell? ⟨ba, off + k * 2, none⟩ = some (.int .i64 (j : Int)) := by rw [HB.out.cell (p := ⟨ba, off + k * 2, none⟩) hbl, d0]
      have e1 : wr.cell? ⟨ba, off + k * 2 + 1, none⟩ = some (.int .i64 vf) := by rw [HB.out.cell (p := ⟨ba, off + k * 2 + 1, none⟩) hbl, d1]
      have HST : Hid (nx ws (k + 1) = nxS (nx ws k) ⟨(j : Int), vf⟩) := hst
      have bf : 0 ≤ vf ∧ vf < 64 := by omega
      have bj : j < 61 := by omega
      clear hc hcs d0 d1 hv hst hok hbd
      obtain ⟨w2, hw2⟩ : ∃ W, wr.alloc (.cells #[.int .i64 (j : Int), .int .i64 vf] 59) = W := ⟨_, rfl⟩
      have hb2 : Below wr.heap.size wr w2 := by rw [← hw2]; exact (Below.refl _ _).alloc (Nat.le_refl _) _
      have K2 : Box w2 wr.heap.size 59 #[.int .i64 (j : Int), .int .i64 vf] := by rw [← hw2]; exact Box.new _ _ _
      have N2 : Hid (Box w2 w.heap.size 106 (cN (nx ws k))) := HN.out.belowS hb2
      have B2 : Hid (Below w.heap.size w w2) := HB.out.trans (hb2.mono HB.out.size)
      obtain ⟨q0, q1⟩ := box2 K2
      have cj := N2.out.cell j
      rw [cN_get _ bj] at cj
      have tj := N2.out.thaw j
      have ho := bits_or (nx ws k j) (bitT vf)
      have HS : Hid (_ = _) := cN_set (nx ws k) bj vf
      have bj2 : (j : Int) < 61 := by omega
      clear hb2 K2 HN HB
      go_wp2_with fail
      go_region_with (
        go_at_call 88
        refine (CX.out _ vf bf.1 bf.2).mono ?_
        rintro e w3 ⟨rfl, rfl⟩
        unfold uV)
      all_goals
        have N3 : Hid (Box (w2.setCell ⟨w.heap.size, j, none⟩ (.int .u64 ((orT (nx ws k j) (bitT vf)).toNat : Int))) w.heap.size 106 (cN (nx ws (k + 1)))) := by unfold Hid; rw [HST.out, ← HS.out]; exact N2.out.set j _
        have B3 : Hid (Below w.heap.size w (w2.setCell ⟨w.heap.size, j, none⟩ (.int .u64 ((orT (nx ws k j) (bitT vf)).toNat : Int)))) := B2.out.setCell (Nat.le_refl _) _
        clear q0 q1 cj tj N2 B2
        go_wp2
        go_roundw
        case rel => exact ⟨k + 1, by omega, by go_num, N3, by first | exact B3 | exact Below.drew B3.out⟩
        case measure => simp [intOf]; omega
    · have e : k = n := by omega
      rw [e, ← HLN.out] at HN
      have cge : ¬ (k : Int) < (n : Int) := by omega
      have lw : w.heap.size < wr.heap.size := HN.out.lt
      have cx := HN.out.cell x
      rw [cN_get _ (by omega)] at cx
      have bx2 : (x : Int) < 61 := by omega
      obtain ⟨W1, hW1⟩ : ∃ W, wr = W := ⟨_, rfl⟩
      have NW : Hid (Box W1 w.heap.size 106 (cN (nx ws ws.length))) := hW1 ▸ HN
      have BW : Hid (Below w.heap.size w W1) := hW1 ▸ HB
      have HB0 : Hid (Below W1.heap.size W1 wr) := by unfold Hid; rw [hW1]; exact Below.refl _ _
      have I0 : Hid (Inv ws x (nx ws ws.length x) (nx ws ws.length x)) := Inv.begin ws x HALL.out
      clear e hW1 HB
      go_wp2
      clear cx
      go_loopw [8, 9] (fun m d wr => ∃ met todo : B64, m = .int .u64 ((met.toNat : Nat) : Int) ∧ d = .int .u64 ((todo.toNat : Nat) : Int) ∧ Hid (Inv ws x met todo) ∧ Hid (Below W1.heap.size W1 wr)) (fun m d _ => meas (intOf m).toNat (intOf d).toNat)
      case atStart => exact ⟨_, _, rfl, rfl, I0, HB0⟩
      case round =>
        obtain ⟨met, todo, rfl, rfl, HI, HB⟩ := hrel
        have hw : Hid (Below w.heap.size w wr) := BW.out.trans (HB.out.mono BW.out.size)
        have Nr := NW.out.belowS HB.out
        by_cases ht : todo = 0#64
        · subst ht
          have HE : Hid (inT met x = true ↔ Rch ws x x) := ⟨HI.out.rch x (by omega), HI.out.done HALL.out x⟩
          have CH : Hid (∀ W : World, Calls Tryd.prog 76 #[.int .u64 (met.toNat : Int), .int .i64 (x : Int)] W fun e w' => e = .returned (.bool (inT met x)) ∧ w' = W) := fun W => c_has met x W (by omega) (by omega)
          clear Nr
          go_wp2_with fail
          refine (CH.out _).mono ?_
          rintro e wq ⟨rfl, hwq⟩; rw [hwq]; clear hwq
          go_wp2
          go_ret
          exact ⟨⟨_, rfl, HE.out⟩, hw.out⟩
        · have hne := ne_zero (b := todo)
          rw [decide_eq_true ht] at hne
          have CT : Hid (∀ W : World, TabZ W → Calls Tryd.prog 89 #[.int .u64 (todo.toNat : Int)] W fun e w' => (∃ k : Nat, e = .returned (.int .i64 (k : Int)) ∧ k < 64 ∧ inT todo (k : Int) = true) ∧ w' = W) := fun W hW => c_tz todo W hW ht
          clear ht
          go_wp2_with fail
          refine (CT.out wr (HZ.out.below hw.out)).mono ?_
          rintro e wq ⟨⟨k2, rfl, hk2, hin⟩, hwq⟩; rw [hwq]; clear hwq
          have hkb := rch_pos HALL.out (HI.out.rch k2 (by omega) (HI.out.sub k2 (by omega) hin))
          have ck := Nr.cell k2
          rw [cN_get _ (by omega)] at ck
          have bk2 : (k2 : Int) < 61 := by omega
          have o1 := bits_andNot todo (bitT k2)
          have o2 := bits_andNot (nx ws ws.length k2) met
          have o3 := bits_or (subT todo (bitT k2)) (subT (nx ws ws.length k2) met)
          have o4 := bits_or met (nx ws ws.length k2)
          have HI2 : Hid (Inv ws x (orT met (nx ws ws.length k2)) (orT (subT todo (bitT k2)) (subT (nx ws ws.length k2) met))) := HI.out.next HALL.out hk2 hin
          have HM : Hid (meas (orT met (nx ws ws.length k2)).toNat (orT (subT todo (bitT k2)) (subT (nx ws ws.length k2) met)).toNat < meas met.toNat todo.toNat) := meas_less hk2 hin
          clear Nr hin CT HI
          go_wp2_with fail
          go_region_with (
            go_at_call 88
            refine (CX.out _ (k2 : Int) (by omega) (by omega)).mono ?_
            rintro e w3 ⟨rfl, rfl⟩
            unfold uV)
          all_goals
            have B3 : Hid (Below W1.heap.size W1 wr.drew) := Below.drew HB.out
            go_wp2
            go_roundw
            case rel => exact ⟨_, _, rfl, rfl, HI2, B3⟩
            case measure => first | exact HM.out | (simp only [intOf, Int.toNat_natCast]; exact HM.out)

end Go.Proofs.YtmjacoocnkcilaaDoor
