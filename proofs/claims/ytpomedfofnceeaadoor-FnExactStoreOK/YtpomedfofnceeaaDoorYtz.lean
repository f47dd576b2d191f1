/-
  How a store that came in is read.
-/
import Derived.Test.YtpomedfofnceeaaDoorYla
import Derived.Test.YtpomedfofnceeaaDoorRo
import Derived.Test.YtpomedfofnceeaaDoorGp
import Derived.Test.YtpomedfofnceeaaDoorGg
import Derived.Test.YtpomedfofnceeaaDoorRu
import Derived.Laws.IdiomStrings
import Derived.Test.YtpomedfofnceeaaDoorTb
import Derived.Test.YtpomedfofnceeaaDoorDk
import Derived.ProofKit
import Derived.OpenShut
import Derived.SliceStrings
import Derived.ChangeSlices
import Derived.Lib.SmallJoins
import Derived.Deep.Slices
import Derived.Deep.Strs
import Derived.RangeFuncNested
import Derived.RangeFuncBound
import Derived.RangeFuncCalls
import Derived.RangeFuncLeaves
import Derived.Shelf.Abstract
import Derived.Shelf.RegionOpen
import Derived.WalkKit
import Derived.OwnWalkIn
import Derived.TacticsInMore
import Derived.LoopNIn
import Derived.LoopIn
import Derived.Test.YtpomedfofnceeaaDoorSh
import Derived.Test.YtpomedfofnceeaaDoorSg
import Derived.Deep.AppendLies
import Derived.Deep.RegionHeld3
import Derived.Test.YtpomedfofnceeaaDoorYsf
import Derived.Test.YtpomedfofnceeaaDoorYtc
import Derived.Test.YtpomedfofnceeaaDoorBx
import Derived.Deep.Quiet
import Derived.Deep.QuietTactic
import Derived.BigQuiet
import Derived.Test.YtpomedfofnceeaaDoorRn
import Derived.Test.YtpomedfofnceeaaDoorGk
namespace Go.Proofs.YtpomedfofnceeaaDoor
open Go Go.RowKit
attribute [local go_sem ↓] Go.wp_at_zero Go.wp_at_succ

def inPl : Nat → List DR → Bool
  | _, [] => true
  | i, v :: vs => okLR v && (decide (v.l = (i : Int) + 1) && inPl (i + 1) vs)
def ofEp (most : Int) : Int → List DR → Bool
  | _, [] => true
  | q, v :: vs => decide (q ≤ v.e) && (decide (v.e ≤ most) && ofEp most v.e vs)
theorem inPl_at {vs : List DR} {k : Nat} (h : k < vs.length) : inPl k (vs.drop k) = (okLR (vs.getD k zeroR) && (decide ((vs.getD k zeroR).l = (k : Int) + 1) && inPl (k + 1) (vs.drop (k + 1)))) := by
  rw [List.drop_eq_getElem_cons h, List.getD_eq_getElem?_getD, List.getElem?_eq_getElem h]
  rfl
theorem ofEp_at {vs : List DR} {k : Nat} {most q : Int} (h : k < vs.length) : ofEp most q (vs.drop k) = (decide (q ≤ (vs.getD k zeroR).e) && (decide ((vs.getD k zeroR).e ≤ most) && ofEp most (vs.getD k zeroR).e (vs.drop (k + 1)))) := by
  rw [List.drop_eq_getElem_cons h, List.getD_eq_getElem?_getD, List.getElem?_eq_getElem h]
  rfl
theorem getD_of {α : Type} {Q : α → Prop} {vs : List α} {d : α} {k : Nat} (h : ∀ v ∈ vs, Q v) (hk : k < vs.length) : Q (vs.getD k d) := by
  rw [List.getD_eq_getElem?_getD, List.getElem?_eq_getElem hk]
  exact h _ (List.getElem_mem hk)
set_option maxRecDepth 100000 in
set_option maxHeartbeats 4000000 in
theorem c_inPlace (a : Option Addr) (n cap : Nat) (vs : List DR) (w : World) (hr : RdQ w a n vs) (hn : n ≤ 100000) (hs : ∀ v ∈ vs, v.b.size ≤ maxLen ∧ v.a.size ≤ maxLen) :
    Calls Tryd.prog 80 #[.slice a n cap] w fun e w' => e = .returned (.bool (inPl 0 vs)) ∧ Below w.heap.size w w' := by
  obtain ⟨hl, hcs⟩ := hr
  go_enter Tryd.func80, Tryd.ntmps80
  go_wp2
  go_loopw [7] (fun i wr => ∃ k : Nat, k ≤ n ∧ i = .int .i64 k ∧ Hid (inPl k (vs.drop k) = inPl 0 vs) ∧ Below w.heap.size w wr) (fun i _ => n - (intOf i).toNat)
  case atStart => exact ⟨0, by omega, rfl, rfl, Below.refl _ _⟩
  case round =>
    obtain ⟨k, hk, rfl, HI, hb⟩ := hrel
    by_cases hlt : k < n
    · obtain ⟨b, off, rfl, hbl, hc⟩ := hcs (by omega)
      obtain ⟨⟨ve, vl, vt, vk, vp, vn, vg, vz, vb, va⟩, hv⟩ : ∃ v, v = vs.getD k zeroR := ⟨_, rfl⟩
      obtain ⟨d0, d1, d2, d3, d4, d5, d6, d7, d8, d9⟩ := RdQ.at hc hlt hv
      dsimp only at d0 d1 d2 d3 d4 d5 d6 d7 d8 d9
      have e0 : wr.cell? ⟨b, off + k * 10, none⟩ = some (.int .i64 ve) := by rw [hb.cell (p := ⟨b, off + k * 10, none⟩) hbl, d0]
      have e1 : wr.cell? ⟨b, off + k * 10 + 1, none⟩ = some (.int .i64 vl) := by rw [hb.cell (p := ⟨b, off + k * 10 + 1, none⟩) hbl, d1]
      have e2 : wr.cell? ⟨b, off + k * 10 + 2, none⟩ = some (.int .i64 vt) := by rw [hb.cell (p := ⟨b, off + k * 10 + 2, none⟩) hbl, d2]
      have e3 : wr.cell? ⟨b, off + k * 10 + 3, none⟩ = some (.int .i64 vk) := by rw [hb.cell (p := ⟨b, off + k * 10 + 3, none⟩) hbl, d3]
      have e4 : wr.cell? ⟨b, off + k * 10 + 4, none⟩ = some (.int .i64 vp) := by rw [hb.cell (p := ⟨b, off + k * 10 + 4, none⟩) hbl, d4]
      have e5 : wr.cell? ⟨b, off + k * 10 + 5, none⟩ = some (.int .i64 vn) := by rw [hb.cell (p := ⟨b, off + k * 10 + 5, none⟩) hbl, d5]
      have e6 : wr.cell? ⟨b, off + k * 10 + 6, none⟩ = some (.int .i64 vg) := by rw [hb.cell (p := ⟨b, off + k * 10 + 6, none⟩) hbl, d6]
      have e7 : wr.cell? ⟨b, off + k * 10 + 7, none⟩ = some (.int .i64 vz) := by rw [hb.cell (p := ⟨b, off + k * 10 + 7, none⟩) hbl, d7]
      have e8 : wr.cell? ⟨b, off + k * 10 + 8, none⟩ = some (.string vb) := by rw [hb.cell (p := ⟨b, off + k * 10 + 8, none⟩) hbl, d8]
      have e9 : wr.cell? ⟨b, off + k * 10 + 9, none⟩ = some (.string va) := by rw [hb.cell (p := ⟨b, off + k * 10 + 9, none⟩) hbl, d9]
      have hss := getD_of (d := zeroR) hs (show k < vs.length by omega)
      have HA := inPl_at (vs := vs) (k := k) (by omega)
      rw [← hv] at HA hss
      have HA' : Hid (_ = _) := HA
      have C : Hid (∀ wx, Calls Tryd.prog 103 #[.agg #[.int .i64 ve, .int .i64 vl, .int .i64 vt, .int .i64 vk, .int .i64 vp, .int .i64 vn, .int .i64 vg, .int .i64 vz, .string vb, .string va]] wx fun e w' => e = .returned (.bool (okLR ⟨ve, vl, vt, vk, vp, vn, vg, vz, vb, va⟩)) ∧ Below wx.heap.size wx w') := fun wx => c_implLR ve vl vt vk vp vn vg vz vb va wx hss.1 hss.2
      have g1 : (0 : Int) ≤ (k : Int) := by omega
      have g2 : (k : Int) < (n : Int) := by omega
      clear hc hcs hv HA hss d0 d1 d2 d3 d4 d5 d6 d7 d8 d9 hs
      obtain ⟨W, hW⟩ : ∃ W, wr.alloc (.cells #[.int .i64 ve, .int .i64 vl, .int .i64 vt, .int .i64 vk, .int .i64 vp, .int .i64 vn, .int .i64 vg, .int .i64 vz, .string vb, .string va] 75) = W := ⟨_, rfl⟩
      have HN : Hid (Box W wr.heap.size 75 #[.int .i64 ve, .int .i64 vl, .int .i64 vt, .int .i64 vk, .int .i64 vp, .int .i64 vn, .int .i64 vg, .int .i64 vz, .string vb, .string va]) := by unfold Hid; rw [← hW]; exact Box.new _ _ _
      have HB : Hid (Below w.heap.size w W) := by unfold Hid; rw [← hW]; exact hb.alloc hb.size _
      obtain ⟨y0, y1, y2, y3, y4, y5, y6, y7, y8, y9⟩ := box10 HN.out
      clear hb
      go_wp2_with fail
      refine (C.out W).mono ?_
      rintro e w3 ⟨rfl, hb3⟩
      have HB3 : Hid (Below w.heap.size w w3) := HB.out.trans (hb3.mono HB.out.size)
      have z1 : w3.cell? ⟨wr.heap.size, 1, none⟩ = some (.int .i64 vl) := far6 hb3 y1
      clear hb3 C HB HN hW y0 y1 y2 y3 y4 y5 y6 y7 y8 y9 e0 e1 e2 e3 e4 e5 e6 e7 e8 e9
      cases hok : okLR ⟨ve, vl, vt, vk, vp, vn, vg, vz, vb, va⟩
      · have E : Hid (inPl 0 vs = false) := by unfold Hid; rw [← HI.out, HA'.out, hok]; rfl
        clear hok
        go_wp2
        go_ret
        exact ⟨ret_bool E.out.symm, HB3.out⟩
      by_cases hq : vl = (k : Int) + 1
      · have c1 : (vl != (k : Int) + 1) = false := by simpa using hq
        have E : Hid (inPl (k + 1) (vs.drop (k + 1)) = inPl 0 vs) := by unfold Hid; rw [← HI.out, HA'.out, hok, decide_eq_true hq]; rfl
        clear hok hq
        go_wp2
        go_roundw
        case rel => exact ⟨k + 1, by omega, by go_num, E, HB3.out⟩
        case measure => simp [intOf]; omega
      · have c1 : (vl != (k : Int) + 1) = true := by simpa using hq
        have E : Hid (inPl 0 vs = false) := by unfold Hid; rw [← HI.out, HA'.out, hok, decide_eq_false hq]; rfl
        clear hok hq
        go_wp2
        go_ret
        exact ⟨ret_bool E.out.symm, HB3.out⟩
    · have e : k = n := by omega
      subst e
      have E : Hid (inPl 0 vs = true) := by unfold Hid; rw [← HI.out, List.drop_eq_nil_of_le (by omega)]; rfl
      go_wp2
      go_ret
      exact ⟨ret_bool E.out.symm, hb⟩
set_option maxRecDepth 100000 in
set_option maxHeartbeats 4000000 in
theorem c_ofEpochs (a : Option Addr) (n cap : Nat) (vs : List DR) (most : Int) (w : World) (hr : RdQ w a n vs) (hn : n ≤ 100000) :
    Calls Tryd.prog 81 #[.slice a n cap, .int .i64 most] w fun e w' => e = .returned (.bool (ofEp most 0 vs)) ∧ Below w.heap.size w w' := by
  obtain ⟨hl, hcs⟩ := hr
  go_enter Tryd.func81, Tryd.ntmps81
  go_wp2
  go_loopw [5, 10] (fun le i wr => ∃ (k : Nat) (q : Int), k ≤ n ∧ i = .int .i64 k ∧ le = .int .i64 q ∧ Hid (ofEp most q (vs.drop k) = ofEp most 0 vs) ∧ Below w.heap.size w wr) (fun _ i _ => n - (intOf i).toNat)
  case atStart => exact ⟨0, 0, by omega, rfl, rfl, rfl, Below.refl _ _⟩
  case round =>
    obtain ⟨k, q, hk, rfl, rfl, HI, hb⟩ := hrel
    by_cases hlt : k < n
    · obtain ⟨b, off, rfl, hbl, hc⟩ := hcs (by omega)
      obtain ⟨⟨ve, vl, vt, vk, vp, vn, vg, vz, vb, va⟩, hv⟩ : ∃ v, v = vs.getD k zeroR := ⟨_, rfl⟩
      obtain ⟨d0, d1, d2, d3, d4, d5, d6, d7, d8, d9⟩ := RdQ.at hc hlt hv
      dsimp only at d0 d1 d2 d3 d4 d5 d6 d7 d8 d9
      have e0 : wr.cell? ⟨b, off + k * 10, none⟩ = some (.int .i64 ve) := by rw [hb.cell (p := ⟨b, off + k * 10, none⟩) hbl, d0]
      have e1 : wr.cell? ⟨b, off + k * 10 + 1, none⟩ = some (.int .i64 vl) := by rw [hb.cell (p := ⟨b, off + k * 10 + 1, none⟩) hbl, d1]
      have e2 : wr.cell? ⟨b, off + k * 10 + 2, none⟩ = some (.int .i64 vt) := by rw [hb.cell (p := ⟨b, off + k * 10 + 2, none⟩) hbl, d2]
      have e3 : wr.cell? ⟨b, off + k * 10 + 3, none⟩ = some (.int .i64 vk) := by rw [hb.cell (p := ⟨b, off + k * 10 + 3, none⟩) hbl, d3]
      have e4 : wr.cell? ⟨b, off + k * 10 + 4, none⟩ = some (.int .i64 vp) := by rw [hb.cell (p := ⟨b, off + k * 10 + 4, none⟩) hbl, d4]
      have e5 : wr.cell? ⟨b, off + k * 10 + 5, none⟩ = some (.int .i64 vn) := by rw [hb.cell (p := ⟨b, off + k * 10 + 5, none⟩) hbl, d5]
      have e6 : wr.cell? ⟨b, off + k * 10 + 6, none⟩ = some (.int .i64 vg) := by rw [hb.cell (p := ⟨b, off + k * 10 + 6, none⟩) hbl, d6]
      have e7 : wr.cell? ⟨b, off + k * 10 + 7, none⟩ = some (.int .i64 vz) := by rw [hb.cell (p := ⟨b, off + k * 10 + 7, none⟩) hbl, d7]
      have e8 : wr.cell? ⟨b, off + k * 10 + 8, none⟩ = some (.string vb) := by rw [hb.cell (p := ⟨b, off + k * 10 + 8, none⟩) hbl, d8]
      have e9 : wr.cell? ⟨b, off + k * 10 + 9, none⟩ = some (.string va) := by rw [hb.cell (p := ⟨b, off + k * 10 + 9, none⟩) hbl, d9]
      have HA := ofEp_at (vs := vs) (k := k) (most := most) (q := q) (by omega)
      rw [← hv] at HA
      have HA' : Hid (_ = _) := HA
      have g1 : (0 : Int) ≤ (k : Int) := by omega
      have g2 : (k : Int) < (n : Int) := by omega
      clear hc hcs hv HA d0 d1 d2 d3 d4 d5 d6 d7 d8 d9
      obtain ⟨W, hW⟩ : ∃ W, wr.alloc (.cells #[.int .i64 ve, .int .i64 vl, .int .i64 vt, .int .i64 vk, .int .i64 vp, .int .i64 vn, .int .i64 vg, .int .i64 vz, .string vb, .string va] 75) = W := ⟨_, rfl⟩
      have HN : Hid (Box W wr.heap.size 75 #[.int .i64 ve, .int .i64 vl, .int .i64 vt, .int .i64 vk, .int .i64 vp, .int .i64 vn, .int .i64 vg, .int .i64 vz, .string vb, .string va]) := by unfold Hid; rw [← hW]; exact Box.new _ _ _
      have HB : Hid (Below w.heap.size w W) := by unfold Hid; rw [← hW]; exact hb.alloc hb.size _
      obtain ⟨y0, y1, y2, y3, y4, y5, y6, y7, y8, y9⟩ := box10 HN.out
      clear hb
      by_cases h1 : ve < q
      · have E : Hid (ofEp most 0 vs = false) := by unfold Hid; rw [← HI.out, HA'.out, decide_eq_false (show ¬ q ≤ ve by omega)]; rfl
        go_wp2
        go_ret
        exact ⟨ret_bool E.out.symm, HB.out⟩
      by_cases h2 : most < ve
      · have E : Hid (ofEp most 0 vs = false) := by unfold Hid; rw [← HI.out, HA'.out, decide_eq_true (show q ≤ ve by omega), decide_eq_false (show ¬ ve ≤ most by omega)]; rfl
        go_wp2
        go_ret
        exact ⟨ret_bool E.out.symm, HB.out⟩
      have E : Hid (ofEp most ve (vs.drop (k + 1)) = ofEp most 0 vs) := by unfold Hid; rw [← HI.out, HA'.out, decide_eq_true (show q ≤ ve by omega), decide_eq_true (show ve ≤ most by omega)]; rfl
      go_wp2
      go_roundw
      case rel => exact ⟨k + 1, ve, by omega, by go_num, rfl, E, HB.out⟩
      case measure => simp [intOf]; omega
    · have e : k = n := by omega
      subst e
      have E : Hid (ofEp most 0 vs = true) := by unfold Hid; rw [← HI.out, List.drop_eq_nil_of_le (by omega)]; rfl
      go_wp2
      go_ret
      exact ⟨ret_bool E.out.symm, hb⟩

end Go.Proofs.YtpomedfofnceeaaDoor
namespace Go.Proofs.YtpomedfofnceeaaDoor.G
open Go Go.RowKit
attribute [local go_sem ↓] Go.wp_at_zero Go.wp_at_succ


def rdC (no : Int) (zs : List Int) : Int := if 65536 < zs.length then 2 else if unsB zs then (if (rpD no (headZ zs)).isSome then 0 else 3) else 8
def rdR (no : Int) (zs : List Int) : DG := if 65536 < zs.length then ⟨0, []⟩ else if unsB zs then rpP (rpD no (headZ zs)) else ⟨0, []⟩
theorem rd2 {no : Int} {zs : List Int} (h : 65536 < zs.length) : rdC no zs = 2 ∧ rdR no zs = ⟨0, []⟩ := by unfold rdC rdR; rw [if_pos h, if_pos h]; exact ⟨rfl, rfl⟩
theorem rd8 {no : Int} {zs : List Int} (h : ¬ 65536 < zs.length) (h1 : unsB zs = false) : rdC no zs = 8 ∧ rdR no zs = ⟨0, []⟩ := by unfold rdC rdR; rw [if_neg h, if_neg h, h1]; exact ⟨rfl, rfl⟩
theorem rd3 {no : Int} {zs : List Int} (h : ¬ 65536 < zs.length) (h1 : unsB zs = true) (h2 : rpD no (headZ zs) = none) : rdC no zs = 3 ∧ rdR no zs = ⟨0, []⟩ := by unfold rdC rdR; rw [if_neg h, if_neg h, h1, h2]; exact ⟨rfl, rfl⟩
theorem rd0 {no : Int} {zs : List Int} {D : DG} (h : ¬ 65536 < zs.length) (h1 : unsB zs = true) (h2 : rpD no (headZ zs) = some D) : rdC no zs = 0 ∧ rdR no zs = D := by unfold rdC rdR; rw [if_neg h, if_neg h, h1, h2]; exact ⟨rfl, rfl⟩
theorem rpD_ok {no : Int} {x : List Int} {D : DG} (h : rpD no x = some D) : okG D = true := by
  unfold rpD at h
  split at h
  · cases h
  · split at h
    · split at h
      · cases h
      · split at h
        · rename_i hg
          cases h
          exact hg
        · cases h
    · cases h
theorem ok_fitG {D : DG} (h : okG D = true) : FitG D := by
  have hp := okG_parts h
  exact ⟨by rw [hp.2.2.1]; omega, fun s hs => by have := hp.2.2.2 s hs; omega⟩
theorem rd_fit (no : Int) (zs : List Int) : FitG (rdR no zs) := by
  unfold rdR
  split
  · exact ⟨by simp, fun _ h => by cases h⟩
  · split
    · cases h : rpD no (headZ zs) with
      | none => exact ⟨by simp [rpP], fun _ h => by cases h⟩
      | some D => exact ok_fitG (rpD_ok h)
    · exact ⟨by simp, fun _ h => by cases h⟩
set_option maxRecDepth 100000 in
set_option maxHeartbeats 4000000 in
theorem c_implRP (no : Int) (a : Option Addr) (n cap : Nat) (zs : List Int) (w : World) (hr : RdV w a n (zs.map (Value.int .u8))) (hz : ∀ z ∈ zs, 0 ≤ z ∧ z < 256) (hn : n ≤ 1048576) (hcap : n ≤ cap) (ht : TabH w) :
    Calls Tryd.prog 55 #[.int .i64 no, .slice a n cap] w fun e w' => (∃ h' : HG, e = .returned (.tuple #[.agg #[.int .i64 h'.l, .slice h'.a h'.n h'.c], .int .i64 (rdC no zs)]) ∧ OwnG w' w.heap.size w'.heap.size h' (rdR no zs)) ∧ Below w.heap.size w w' := by
  have hl : zs.length = n := by simpa using hr.1
  obtain ⟨V, hV⟩ : ∃ V, w.alloc (.cells #[.int .i64 0, .slice none 0 0] 87) = V := ⟨_, rfl⟩
  have HB : Hid (Below w.heap.size w V) := by unfold Hid; rw [← hV]; exact (Below.refl _ _).alloc (Nat.le_refl _) _
  have BR : Hid (Box V w.heap.size 87 #[.int .i64 0, .slice none 0 0]) := by unfold Hid; rw [← hV]; exact Box.new _ _ _
  have l0 := BR.out.lt
  obtain ⟨u0, u1⟩ := box2 BR.out
  have t0 := BR.out.thaw 0
  have t1 := BR.out.thaw 1
  by_cases h1 : 65536 < n
  · have E : Hid (rdC no zs = 2 ∧ rdR no zs = ⟨0, []⟩) := rd2 (by omega)
    clear hr hz ht
    go_enter Tryd.func55, Tryd.ntmps55
    go_wp2
    refine retG2 Tryd.results55 rfl rfl rfl (put2_box BR.out _ _) ⟨?_, put2_below HB.out (Nat.le_refl _) _ _⟩
    rw [E.out.1, E.out.2]
    exact ⟨⟨0, none, 0, 0⟩, rfl, own_zero _ _ _ (Nat.le_refl _)⟩
  by_cases h4 : n < 4
  · have E : Hid (rdC no zs = 8 ∧ rdR no zs = ⟨0, []⟩) := rd8 (by omega) (uns_lo (by omega))
    clear hr hz ht
    go_enter Tryd.func55, Tryd.ntmps55
    go_wp2_with fail
    refine (c_unseal_lo a n cap V h4).mono ?_
    rintro e w1 ⟨rfl, q, hq⟩
    have B1 : Hid (Below w.heap.size w w1) := by unfold Hid; rw [hq]; exact below_drewN HB.out q
    have BR1 : Hid (Box w1 w.heap.size 87 #[.int .i64 0, .slice none 0 0]) := by unfold Hid; rw [hq]; exact BR.out.drewN q
    clear hq hV HB BR u0 u1 t0 t1
    obtain ⟨u0, u1⟩ := box2 BR1.out
    have t0 := BR1.out.thaw 0
    have t1 := BR1.out.thaw 1
    go_wp2
    refine retG2 Tryd.results55 rfl rfl rfl (put2_box BR1.out _ _) ⟨?_, put2_below B1.out (Nat.le_refl _) _ _⟩
    rw [E.out.1, E.out.2]
    exact ⟨⟨0, none, 0, 0⟩, rfl, own_zero _ _ _ (Nat.le_refl _)⟩
  obtain ⟨b, off, rfl, _, _⟩ := hr.2 (by omega)
  have HR : Hid (RdV w (some ⟨b, off, none⟩) n (zs.map (Value.int .u8))) := hr
  have HZ : Hid (∀ z ∈ zs, 0 ≤ z ∧ z < 256) := hz
  have HL : Hid (zs.length = n) := hl
  have UN := c_unseal b off n cap zs V (hr.below HB.out) hz (by omega) hcap (by omega) (ht.below HB.out)
  have HUN : Hid (Calls Tryd.prog 107 #[.slice (some ⟨b, off, none⟩) n cap] V fun e w' => e = .returned (.tuple #[unsV b off n (unsB zs), .bool (unsB zs)]) ∧ Below V.heap.size V w') := UN
  clear UN hr hz ht hl
  go_enter Tryd.func55, Tryd.ntmps55
  go_wp2_with fail
  refine HUN.out.mono ?_
  rintro e w1 ⟨rfl, hb⟩
  have B1 : Hid (Below w.heap.size w w1) := HB.out.trans (hb.mono HB.out.size)
  have BR1 : Hid (Box w1 w.heap.size 87 #[.int .i64 0, .slice none 0 0]) := BR.out.belowS hb
  clear hb hV HB BR u0 u1 t0 t1 HUN
  obtain ⟨u0, u1⟩ := box2 BR1.out
  have t0 := BR1.out.thaw 0
  have t1 := BR1.out.thaw 1
  cases hu : unsB zs
  · have E : Hid (rdC no zs = 8 ∧ rdR no zs = ⟨0, []⟩) := rd8 (by have := HL.out; omega) hu
    clear hu
    rw [show unsV b off n false = .slice none 0 0 from rfl]
    go_wp2
    refine retG2 Tryd.results55 rfl rfl rfl (put2_box BR1.out _ _) ⟨?_, put2_below B1.out (Nat.le_refl _) _ _⟩
    rw [E.out.1, E.out.2]
    exact ⟨⟨0, none, 0, 0⟩, rfl, own_zero _ _ _ (Nat.le_refl _)⟩
  have HU : Hid (unsB zs = true) := hu
  clear hu
  rw [show unsV b off n true = .slice (some ⟨b, off, none⟩) (n - 4) (n - 4) from rfl]
  have q01 : w.heap.size < w1.heap.size := BR1.out.lt
  have PO : Hid (Calls Tryd.prog 112 #[.int .i64 no, .slice (some ⟨b, off, none⟩) (n - 4) (n - 4)] w1 fun e w' => (∃ h' : HG, e = .returned (.tuple #[.agg #[.int .i64 h'.l, .slice h'.a h'.n h'.c], .bool (rpD no (headZ zs)).isSome]) ∧ OwnG w' w1.heap.size w'.heap.size h' (rpP (rpD no (headZ zs)))) ∧ Below w1.heap.size w1 w') := c_pageOf no b off (n - 4) (headZ zs) w1 ((head_rd HR.out).below B1.out) (head_bytes HZ.out) (by omega)
  go_wp2_with fail
  refine PO.out.mono ?_
  rintro e w2 ⟨⟨h2, rfl, o2⟩, hb⟩
  have B2 : Hid (Below w.heap.size w w2) := B1.out.trans (hb.mono B1.out.size)
  have BR2 : Hid (Box w2 w.heap.size 87 #[.int .i64 0, .slice none 0 0]) := BR1.out.belowS hb
  have O2 : Hid (OwnG w2 w1.heap.size w2.heap.size h2 (rpP (rpD no (headZ zs)))) := o2
  have q12 : w1.heap.size ≤ w2.heap.size := hb.size
  clear hb o2 PO B1 BR1 u0 u1 t0 t1
  obtain ⟨V3, hV3⟩ : ∃ W, w2.alloc (.cells #[.int .i64 h2.l, .slice h2.a h2.n h2.c] 87) = W := ⟨_, rfl⟩
  have hbv : Below w2.heap.size w2 V3 := by rw [← hV3]; exact (Below.refl _ _).alloc (Nat.le_refl _) _
  have B3 : Hid (Below w.heap.size w V3) := B2.out.trans (hbv.mono B2.out.size)
  have BR3 : Hid (Box V3 w.heap.size 87 #[.int .i64 0, .slice none 0 0]) := BR2.out.belowS hbv
  have BP3 : Hid (Box V3 w2.heap.size 87 #[.int .i64 h2.l, .slice h2.a h2.n h2.c]) := by unfold Hid; rw [← hV3]; exact Box.new _ _ _
  have O3 : Hid (OwnG V3 w1.heap.size w2.heap.size h2 (rpP (rpD no (headZ zs)))) := O2.out.below hbv
  clear hbv B2 BR2 O2
  obtain ⟨p0, p1⟩ := box2 BP3.out
  obtain ⟨u0, u1⟩ := box2 BR3.out
  have t0 := BR3.out.thaw 0
  have t1 := BR3.out.thaw 1
  cases hd : rpD no (headZ zs) with
  | none =>
    have E : Hid (rdC no zs = 3 ∧ rdR no zs = ⟨0, []⟩) := rd3 (by have := HL.out; omega) HU.out hd
    clear hd O3
    rw [Option.isSome_none]
    go_wp2
    refine retG2 Tryd.results55 rfl rfl rfl (put2_box BR3.out _ _) ⟨?_, put2_below B3.out (Nat.le_refl _) _ _⟩
    rw [E.out.1, E.out.2]
    exact ⟨⟨0, none, 0, 0⟩, rfl, own_zero _ _ _ (Nat.le_refl _)⟩
  | some D =>
    have E : Hid (rdC no zs = 0 ∧ rdR no zs = D) := rd0 (by have := HL.out; omega) HU.out hd
    have O4 : Hid (OwnG V3 w1.heap.size w2.heap.size h2 D) := by have := O3.out; rw [hd] at this; exact this
    clear hd O3
    rw [Option.isSome_some]
    go_wp2
    refine retG2 Tryd.results55 rfl rfl rfl (put2_box BR3.out _ _) ⟨?_, put2_below B3.out (Nat.le_refl _) _ _⟩
    rw [E.out.1, E.out.2]
    have := O4.out.put2 (r := w.heap.size) (.inl (by omega)) (.int .i64 h2.l) (.slice h2.a h2.n h2.c)
    exact ⟨h2, rfl, this.wide (B' := w.heap.size) (by omega)⟩

end Go.Proofs.YtpomedfofnceeaaDoor.G
namespace Go.Proofs.YtpomedfofnceeaaDoor.G
open Go Go.RowKit
attribute [local go_sem ↓] Go.wp_at_zero Go.wp_at_succ

def newG : DG := ⟨0, [⟨#[]⟩, ⟨#[]⟩, ⟨#[]⟩, ⟨#[]⟩]⟩
theorem new_fit : FitG newG := ⟨by simp [newG], fun s h => by simp [newG] at h; subst h; simp [ByteArray.size]⟩
theorem own_new {w1 : World} {B : Nat} {c : Nat} (h : w1.ownsRow B 9 1 (.slice (some ⟨B, 0, none⟩) 4 c) 4 (madeCells (Value.string ⟨#[]⟩).cells (4 * 1)).toList) : OwnG w1 B w1.heap.size ⟨0, some ⟨B, 0, none⟩, 4, c⟩ newG := by
  refine ⟨rfl, ?_, Nat.le_refl _, fun g e => h.lt g (by rw [ob_slice]; exact e)⟩
  have e : (madeCells (Value.string ⟨#[]⟩).cells (4 * 1)).toList = newG.S.map Value.string := by rw [show (Value.string ⟨#[]⟩).cells = #[Value.string ⟨#[]⟩] from rfl, toList_madeCells_one]; rfl
  rw [← e]
  exact h

set_option maxRecDepth 100000 in
set_option maxHeartbeats 2000000 in
theorem c_specNew (w : World) : Calls Tryd.prog 128 #[] w fun e w' => (∃ h' : HG, e = .returned (.agg #[.int .i64 h'.l, .slice h'.a h'.n h'.c]) ∧ OwnG w' w.heap.size w'.heap.size h' newG) ∧ Below w.heap.size w w' := by
  obtain ⟨i0, hi, hz0, hz1, hz2⟩ := info_parts infoS
  obtain ⟨V, hV⟩ : ∃ V, w.alloc (.cells #[.int .i64 0, .slice none 0 0] 87) = V := ⟨_, rfl⟩
  have HB : Hid (Below w.heap.size w V) := by unfold Hid; rw [← hV]; exact (Below.refl _ _).alloc (Nat.le_refl _) _
  have BR : Hid (Box V w.heap.size 87 #[.int .i64 0, .slice none 0 0]) := by unfold Hid; rw [← hV]; exact Box.new _ _ _
  have l0 := BR.out.lt
  go_enter Tryd.func128, Tryd.ntmps128
  go_wp2_with (at_make; refine wpList_make_full _ rfl (.const (.int .i64 4)) (.const (.int .i64 4)) 22 rfl V.heap.size 9 i0 (Value.string ⟨#[]⟩) 1 Tryd.underlying22 hi hz0 hz1 .i64 .i64 _ _ 4 rfl rfl rfl rfl (by rw [hz2]; omega) (by unfold maxLen; omega) (Nat.le_refl _) ?_; intro w1 hown hgrow; have hb : Below V.heap.size V w1 := (Below.refl _ _).grown hgrow (Nat.le_refl _) (fun k h => by cases h); have O1 : Hid (OwnG w1 V.heap.size w1.heap.size ⟨0, some ⟨V.heap.size, 0, none⟩, 4, 4⟩ newG) := own_new hown; have B1 : Hid (Below w.heap.size w w1) := HB.out.trans (hb.mono HB.out.size); have BR1 : Hid (Box w1 w.heap.size 87 #[.int .i64 0, .slice none 0 0]) := BR.out.belowS hb; obtain ⟨u0, u1⟩ := box2 BR1.out; have t0 := BR1.out.thaw 0; have t1 := BR1.out.thaw 1; clear hown hgrow hb HB BR hV)
  refine retG1 Tryd.results128 rfl rfl (put2_box BR1.out _ _) ⟨⟨⟨0, some ⟨V.heap.size, 0, none⟩, 4, 4⟩, rfl, ?_⟩, put2_below B1.out (Nat.le_refl _) _ _⟩
  have := O1.out.put2 (r := w.heap.size) (.inl (by omega)) (.int .i64 0) (.slice (some ⟨V.heap.size, 0, none⟩) 4 4)
  exact this.wide (B' := w.heap.size) (by omega)

set_option maxRecDepth 100000 in
set_option maxHeartbeats 2000000 in
theorem c_implNew (w : World) : Calls Tryd.prog 152 #[] w fun e w' => (∃ h' : HG, e = .returned (.agg #[.int .i64 h'.l, .slice h'.a h'.n h'.c]) ∧ OwnG w' w.heap.size w'.heap.size h' newG) ∧ Below w.heap.size w w' := by
  obtain ⟨i0, hi, hz0, hz1, hz2⟩ := info_parts infoS
  obtain ⟨V, hV⟩ : ∃ V, w.alloc (.cells #[.int .i64 0, .slice none 0 0] 87) = V := ⟨_, rfl⟩
  have HB : Hid (Below w.heap.size w V) := by unfold Hid; rw [← hV]; exact (Below.refl _ _).alloc (Nat.le_refl _) _
  have BR : Hid (Box V w.heap.size 87 #[.int .i64 0, .slice none 0 0]) := by unfold Hid; rw [← hV]; exact Box.new _ _ _
  have l0 := BR.out.lt
  go_enter Tryd.func152, Tryd.ntmps152
  go_wp2_with (at_make; refine wpList_make_full _ rfl (.const (.int .i64 4)) (.const (.int .i64 4)) 22 rfl V.heap.size 9 i0 (Value.string ⟨#[]⟩) 1 Tryd.underlying22 hi hz0 hz1 .i64 .i64 _ _ 4 rfl rfl rfl rfl (by rw [hz2]; omega) (by unfold maxLen; omega) (Nat.le_refl _) ?_; intro w1 hown hgrow; have hb : Below V.heap.size V w1 := (Below.refl _ _).grown hgrow (Nat.le_refl _) (fun k h => by cases h); have O1 : Hid (OwnG w1 V.heap.size w1.heap.size ⟨0, some ⟨V.heap.size, 0, none⟩, 4, 4⟩ newG) := own_new hown; have B1 : Hid (Below w.heap.size w w1) := HB.out.trans (hb.mono HB.out.size); have BR1 : Hid (Box w1 w.heap.size 87 #[.int .i64 0, .slice none 0 0]) := BR.out.belowS hb; obtain ⟨u0, u1⟩ := box2 BR1.out; have t0 := BR1.out.thaw 0; have t1 := BR1.out.thaw 1; clear hown hgrow hb HB BR hV)
  refine retG1 Tryd.results152 rfl rfl (put2_box BR1.out _ _) ⟨⟨⟨0, some ⟨V.heap.size, 0, none⟩, 4, 4⟩, rfl, ?_⟩, put2_below B1.out (Nat.le_refl _) _ _⟩
  have := O1.out.put2 (r := w.heap.size) (.inl (by omega)) (.int .i64 0) (.slice (some ⟨V.heap.size, 0, none⟩) 4 4)
  exact this.wide (B' := w.heap.size) (by omega)

end Go.Proofs.YtpomedfofnceeaaDoor.G
namespace Go.Proofs.YtpomedfofnceeaaDoor
open Go Go.RowKit
attribute [local go_sem ↓] Go.wp_at_zero Go.wp_at_succ


def ofL (ts : List Int) : Int := ts.foldl (fun n z => n * 256 + z) 0
theorem ofL_take {ts : List Int} {k : Nat} (h : k < ts.length) : ofL (ts.take (k + 1)) = ofL (ts.take k) * 256 + ts.getD k 0 := by
  unfold ofL
  rw [List.take_succ_eq_append_getElem h, List.foldl_append, List.getD_eq_getElem?_getD, List.getElem?_eq_getElem h]
  rfl
theorem ofL_bd {ts : List Int} (hz : ∀ z ∈ ts, 0 ≤ z ∧ z < 256) : ∀ k, k ≤ ts.length → 0 ≤ ofL (ts.take k) ∧ ofL (ts.take k) < 256 ^ k
  | 0, _ => by simp [ofL]
  | k + 1, h => by
    have h1 := ofL_bd hz k (by omega)
    have h2 := hz (ts.getD k 0) (by rw [List.getD_eq_getElem?_getD, List.getElem?_eq_getElem (by omega)]; exact List.getElem_mem _)
    rw [ofL_take (by omega), Int.pow_succ]
    omega
set_option maxRecDepth 100000 in
set_option maxHeartbeats 2000000 in
theorem c_of (ts : List Int) (w : World) (hz : ∀ z ∈ ts, 0 ≤ z ∧ z < 256) (hn : ts.length ≤ 4) :
    Calls Tryd.prog 141 #[.string (strOfNums ts)] w fun e w' => e = .returned (.int .i64 (ofL ts)) ∧ w' = w := by
  obtain ⟨t, ht⟩ : ∃ t, t = strOfNums ts := ⟨_, rfl⟩
  rw [← ht]
  have hts : t.size = ts.length := by rw [ht, strOfNums_size]
  have HG : Hid (∀ p (h : p < t.size), ((t[p]'h).toNat : Int) = ts.getD p 0) := by
    intro p h; subst ht; exact son_get hz h
  have HZ : Hid (∀ z ∈ ts, 0 ≤ z ∧ z < 256) := hz
  have HTS : Hid (t.size = ts.length) := hts
  have hn4 : t.size ≤ 4 := by omega
  clear ht hz hts hn
  go_enter Tryd.func141, Tryd.ntmps141
  go_wp2
  go_loop [3, 4] (fun m i => ∃ k : Nat, k ≤ t.size ∧ i = .int .i64 k ∧ m = .int .i64 (ofL (ts.take k))) (fun _ i => t.size - (intOf i).toNat)
  case atStart => exact ⟨0, by omega, rfl, rfl⟩
  case round =>
    obtain ⟨k, hk, rfl, rfl⟩ := hrel
    obtain ⟨m, hm⟩ : ∃ m, m = ofL (ts.take k) := ⟨_, rfl⟩
    rw [← hm]
    have hmb : 0 ≤ m ∧ m < 4294967296 := by
      have h1 := ofL_bd HZ.out k (by have := HTS.out; omega)
      rw [← hm] at h1
      have hk4 : k = 0 ∨ k = 1 ∨ k = 2 ∨ k = 3 ∨ k = 4 := by omega
      rcases hk4 with rfl | rfl | rfl | rfl | rfl <;> simp at h1 <;> omega
    have HM : Hid (m = ofL (ts.take k)) := hm
    clear hm
    by_cases hlt : k < t.size
    · obtain ⟨z, hz⟩ : ∃ z : Int, z = ((t[k]'hlt).toNat : Int) := ⟨_, rfl⟩
      have hzb : 0 ≤ z ∧ z < 256 := by rw [hz]; have := (t[k]'hlt).toNat_lt; omega
      have HS : Hid (ofL (ts.take (k + 1)) = m * 256 + z) := by unfold Hid; rw [ofL_take (by have := HTS.out; omega), HM.out, ← HG.out k hlt, hz]
      have hix : ∀ wx : World, (Instr.index 9 (.string t) (.int .i64 (k : Int))).run Tryd.prog wx = .ok (.int .u8 z) wx := fun wx => by
        rw [run_index_string _ _ _ _ _ Tryd.underlying9, hz]
        simp [hlt]
      clear hz
      go_wp2
      go_round
      case rel => exact ⟨k + 1, by omega, by go_num, by rw [HS.out]⟩
      case measure => simp [intOf]; omega
    · have e : k = t.size := by omega
      have E : Hid (m = ofL ts) := by unfold Hid; rw [HM.out, List.take_of_length_le (by have := HTS.out; omega)]
      clear e
      go_wp2
      go_ret
      exact ⟨ret_int E.out, rfl⟩
theorem of_sum {zs : List Int} (h4 : 4 ≤ zs.length) (hz : ∀ z ∈ zs, 0 ≤ z ∧ z < 256) : (((Crc.crc (headZ zs) : Nat) : Int) != ofL (tailZ zs)) = !unsB zs := by
  obtain ⟨t0, t1, t2, t3, ht, e0, e1, e2, e3⟩ := tail4 h4
  have hb : ∀ z ∈ tailZ zs, 0 ≤ z ∧ z < 256 := fun z h => hz z (List.mem_of_mem_drop h)
  rw [ht] at hb
  have b0 := hb t0 (by simp)
  have b1 := hb t1 (by simp)
  have b2 := hb t2 (by simp)
  have b3 := hb t3 (by simp)
  have hc := crc_lt (headZ zs) (head_bytes hz)
  have hl : ofL (tailZ zs) = ((t0 * 256 + t1) * 256 + t2) * 256 + t3 := by rw [ht]; simp [ofL]
  generalize hC : Crc.crc (headZ zs) = C at hc
  by_cases h : ((C : Nat) : Int) = ofL (tailZ zs)
  · have : unsB zs = true := uns_yes h4 (by
      rw [hC, ht]
      rw [hl] at h
      unfold sumZ
      congr 1; omega
      congr 1; omega
      congr 1; omega
      congr 1; omega)
    rw [this]; simp [h]
  · have : unsB zs = false := uns_no (fun e => h (by
      rw [hC, ht] at e
      simp [sumZ] at e
      rw [hl]
      omega))
    rw [this]; simp [h]
def unsT (zs : List Int) (u : Bool) : ByteArray := if u then strOfNums (headZ zs) else ⟨#[]⟩
theorem conv_rd {W : World} {zs : List Int} {c : Nat} {fr : Nat × Nat} (hz : ∀ z ∈ zs, 0 ≤ z ∧ z < 256) : Rd (W.alloc (.cells (bytesRow (strOfNums zs) c) 5 fr)).drew.drew (some ⟨W.heap.size, 0, none⟩) zs.length zs := by
  refine ⟨rfl, hz, fun h => ⟨W.heap.size, 0, rfl, fun i hi => ?_⟩⟩
  have hb : (W.alloc (.cells (bytesRow (strOfNums zs) c) 5 fr)).drew.drew.heap[W.heap.size]? = some (.cells (bytesRow (strOfNums zs) c) 5 fr) := by
    show (W.heap.push _)[W.heap.size]? = _
    simp
  have hsz : i < (strOfNums zs).data.size := by have := strOfNums_size zs; rw [ByteArray.size] at this; omega
  rw [Nat.zero_add, cell_of_row _ W.heap.size i _ 5 fr hb, bytesRow_at _ _ _ hsz]
  have hs2 : i < (strOfNums zs).size := by rw [strOfNums_size]; exact hi
  exact congrArg (fun z => some (Value.int .u8 z)) (son_get (p := i) hz hs2)
theorem headZ_len {zs : List Int} : (headZ zs).length = zs.length - 4 := by unfold headZ; rw [List.length_take]; omega
theorem cut_head {zs : List Int} : (strOfNums zs).extract 0 (zs.length - 4) = strOfNums (headZ zs) := by rw [son_cut]; rfl
theorem cut_tail {zs : List Int} : (strOfNums zs).extract (zs.length - 4) zs.length = strOfNums (tailZ zs) := by
  rw [son_cut]
  unfold tailZ
  rw [List.take_of_length_le (by rw [List.length_drop]; omega)]
theorem c_unsealS_lo (zs : List Int) (w : World) (h4 : zs.length < 4) :
    Calls Tryd.prog 105 #[.string (strOfNums zs)] w fun e w' => e = .returned (.tuple #[.string ⟨#[]⟩, .bool false]) ∧ ∃ q, w' = w.drewN q := by
  obtain ⟨t, ht⟩ : ∃ t, t = strOfNums zs := ⟨_, rfl⟩
  rw [← ht]
  have hts : t.size = zs.length := by rw [ht, strOfNums_size]
  have z0 : (t.size : Int) - 4 < 0 := by omega
  have z1 : (t.size : Int) < 4 := by omega
  clear ht hts h4
  go_enter Tryd.func105, Tryd.ntmps105
  go_wp2_with fail
  go_quiet (fail)
  go_wp2
  go_ret2
  exact ⟨rfl, _, rfl⟩

end Go.Proofs.YtpomedfofnceeaaDoor
namespace Go.Proofs.YtpomedfofnceeaaDoor
open Go Go.RowKit
attribute [local go_sem ↓] Go.wp_at_zero Go.wp_at_succ


def rdC2 (zs : List Int) : Int := if 65536 < zs.length then 2 else if unsB zs then (if (rrD (headZ zs)).isSome then 0 else 3) else 8
def rdR2 (zs : List Int) : DR := if 65536 < zs.length then zeroR else if unsB zs then (rrD (headZ zs)).getD zeroR else zeroR
theorem rq2 {zs : List Int} (h : 65536 < zs.length) : rdC2 zs = 2 ∧ rdR2 zs = zeroR := by unfold rdC2 rdR2; rw [if_pos h, if_pos h]; exact ⟨rfl, rfl⟩
theorem rq8 {zs : List Int} (h : ¬ 65536 < zs.length) (h1 : unsB zs = false) : rdC2 zs = 8 ∧ rdR2 zs = zeroR := by unfold rdC2 rdR2; rw [if_neg h, if_neg h, h1]; exact ⟨rfl, rfl⟩
theorem rq3 {zs : List Int} (h : ¬ 65536 < zs.length) (h1 : unsB zs = true) (h2 : rrD (headZ zs) = none) : rdC2 zs = 3 ∧ rdR2 zs = zeroR := by unfold rdC2 rdR2; rw [if_neg h, if_neg h, h1, h2]; exact ⟨rfl, rfl⟩
theorem rq0 {zs : List Int} {D : DR} (h : ¬ 65536 < zs.length) (h1 : unsB zs = true) (h2 : rrD (headZ zs) = some D) : rdC2 zs = 0 ∧ rdR2 zs = D := by unfold rdC2 rdR2; rw [if_neg h, if_neg h, h1, h2]; exact ⟨rfl, rfl⟩

set_option maxRecDepth 100000 in
set_option maxHeartbeats 4000000 in
theorem c_implRR (a : Option Addr) (n cap : Nat) (zs : List Int) (w : World) (hr : RdV w a n (zs.map (Value.int .u8))) (hz : ∀ z ∈ zs, 0 ≤ z ∧ z < 256) (hn : n ≤ 1048576) (hcap : n ≤ cap) (ht : TabH w) :
    Calls Tryd.prog 46 #[.slice a n cap] w fun e' w' => e' = .returned (.tuple #[.agg (agR (rdR2 zs)), .int .i64 (rdC2 zs)]) ∧ Below w.heap.size w w' := by
  have hl : zs.length = n := by simpa using hr.1
  obtain ⟨V, hV⟩ : ∃ V, w.alloc (.cells #[.int .i64 0, .int .i64 0, .int .i64 0, .int .i64 0, .int .i64 0, .int .i64 0, .int .i64 0, .int .i64 0, .string ⟨#[]⟩, .string ⟨#[]⟩] 75) = V := ⟨_, rfl⟩
  have HB : Hid (Below w.heap.size w V) := by unfold Hid; rw [← hV]; exact (Below.refl _ _).alloc (Nat.le_refl _) _
  have BR : Hid (Box V w.heap.size 75 #[.int .i64 0, .int .i64 0, .int .i64 0, .int .i64 0, .int .i64 0, .int .i64 0, .int .i64 0, .int .i64 0, .string ⟨#[]⟩, .string ⟨#[]⟩]) := by unfold Hid; rw [← hV]; exact Box.new _ _ _
  obtain ⟨u0, u1, u2, u3, u4, u5, u6, u7, u8, u9⟩ := box10 BR.out
  obtain ⟨t0, t1, t2, t3, t4, t5, t6, t7, t8, t9⟩ := thaw10 BR.out
  by_cases h1 : 65536 < n
  · have E : Hid (rdC2 zs = 2 ∧ rdR2 zs = zeroR) := rq2 (by omega)
    clear hr hz ht
    go_enter Tryd.func46, Tryd.ntmps46
    go_wp2
    refine retR2 (D := zeroR) Tryd.results46 rfl rfl rfl (put10_box (D0 := zeroR) BR.out zeroR) ⟨?_, put10_below HB.out (Nat.le_refl _) zeroR⟩
    rw [E.out.1, E.out.2]
    rfl
  by_cases h4 : n < 4
  · have E : Hid (rdC2 zs = 8 ∧ rdR2 zs = zeroR) := rq8 (by omega) (uns_lo (by omega))
    clear hr hz ht
    go_enter Tryd.func46, Tryd.ntmps46
    go_wp2_with fail
    refine (c_unseal_lo a n cap V h4).mono ?_
    rintro e' w1 ⟨rfl, q, hq⟩
    have B1 : Hid (Below w.heap.size w w1) := by unfold Hid; rw [hq]; exact below_drewN HB.out q
    have BR1 : Hid (Box w1 w.heap.size 75 #[.int .i64 0, .int .i64 0, .int .i64 0, .int .i64 0, .int .i64 0, .int .i64 0, .int .i64 0, .int .i64 0, .string ⟨#[]⟩, .string ⟨#[]⟩]) := by unfold Hid; rw [hq]; exact BR.out.drewN q
    clear hq hV HB BR u0 u1 u2 u3 u4 u5 u6 u7 u8 u9 t0 t1 t2 t3 t4 t5 t6 t7 t8 t9
    obtain ⟨u0, u1, u2, u3, u4, u5, u6, u7, u8, u9⟩ := box10 BR1.out
    obtain ⟨t0, t1, t2, t3, t4, t5, t6, t7, t8, t9⟩ := thaw10 BR1.out
    go_wp2
    refine retR2 (D := zeroR) Tryd.results46 rfl rfl rfl (put10_box (D0 := zeroR) BR1.out zeroR) ⟨?_, put10_below B1.out (Nat.le_refl _) zeroR⟩
    rw [E.out.1, E.out.2]
    rfl
  obtain ⟨b, off, rfl, _, _⟩ := hr.2 (by omega)
  have HR : Hid (RdV w (some ⟨b, off, none⟩) n (zs.map (Value.int .u8))) := hr
  have HZ : Hid (∀ z ∈ zs, 0 ≤ z ∧ z < 256) := hz
  have HL : Hid (zs.length = n) := hl
  have HUN : Hid (Calls Tryd.prog 107 #[.slice (some ⟨b, off, none⟩) n cap] V fun e w' => e = .returned (.tuple #[unsV b off n (unsB zs), .bool (unsB zs)]) ∧ Below V.heap.size V w') := c_unseal b off n cap zs V (hr.below HB.out) hz (by omega) hcap (by omega) (ht.below HB.out)
  clear hr hz ht hl
  go_enter Tryd.func46, Tryd.ntmps46
  go_wp2_with fail
  refine HUN.out.mono ?_
  rintro e' w1 ⟨rfl, hb⟩
  have B1 : Hid (Below w.heap.size w w1) := HB.out.trans (hb.mono HB.out.size)
  have BR1 : Hid (Box w1 w.heap.size 75 #[.int .i64 0, .int .i64 0, .int .i64 0, .int .i64 0, .int .i64 0, .int .i64 0, .int .i64 0, .int .i64 0, .string ⟨#[]⟩, .string ⟨#[]⟩]) := BR.out.belowS hb
  clear hb hV HB BR u0 u1 u2 u3 u4 u5 u6 u7 u8 u9 t0 t1 t2 t3 t4 t5 t6 t7 t8 t9 HUN
  obtain ⟨u0, u1, u2, u3, u4, u5, u6, u7, u8, u9⟩ := box10 BR1.out
  obtain ⟨t0, t1, t2, t3, t4, t5, t6, t7, t8, t9⟩ := thaw10 BR1.out
  cases hu : unsB zs
  · have E : Hid (rdC2 zs = 8 ∧ rdR2 zs = zeroR) := rq8 (by have := HL.out; omega) hu
    clear hu
    rw [show unsV b off n false = .slice none 0 0 from rfl]
    go_wp2
    refine retR2 (D := zeroR) Tryd.results46 rfl rfl rfl (put10_box (D0 := zeroR) BR1.out zeroR) ⟨?_, put10_below B1.out (Nat.le_refl _) zeroR⟩
    rw [E.out.1, E.out.2]
    rfl
  have HU : Hid (unsB zs = true) := hu
  clear hu
  rw [show unsV b off n true = .slice (some ⟨b, off, none⟩) (n - 4) (n - 4) from rfl]
  have PO : Hid (Calls Tryd.prog 108 #[.slice (some ⟨b, off, none⟩) (n - 4) (n - 4)] w1 fun e' w' => (∃ D, e' = .returned (.tuple #[.agg (agR D), .bool (rrD (headZ zs)).isSome]) ∧ ∀ D', rrD (headZ zs) = some D' → D = D') ∧ Below w1.heap.size w1 w') := c_recordOf b off (n - 4) (headZ zs) w1 ((head_rd HR.out).below B1.out) (head_bytes HZ.out) (by omega)
  go_wp2_with fail
  refine PO.out.mono ?_
  rintro e' w2 ⟨⟨⟨f1, f2, f3, f4, f5, f6, f7, f8, fb, fa⟩, rfl, hD⟩, hb⟩
  have B2 : Hid (Below w.heap.size w w2) := B1.out.trans (hb.mono B1.out.size)
  have BR2 : Hid (Box w2 w.heap.size 75 #[.int .i64 0, .int .i64 0, .int .i64 0, .int .i64 0, .int .i64 0, .int .i64 0, .int .i64 0, .int .i64 0, .string ⟨#[]⟩, .string ⟨#[]⟩]) := BR1.out.belowS hb
  have HD : Hid (∀ D', rrD (headZ zs) = some D' → (⟨f1, f2, f3, f4, f5, f6, f7, f8, fb, fa⟩ : DR) = D') := hD
  clear hb hD PO B1 BR1 u0 u1 u2 u3 u4 u5 u6 u7 u8 u9 t0 t1 t2 t3 t4 t5 t6 t7 t8 t9
  rw [show agR ⟨f1, f2, f3, f4, f5, f6, f7, f8, fb, fa⟩ = #[.int .i64 f1, .int .i64 f2, .int .i64 f3, .int .i64 f4, .int .i64 f5, .int .i64 f6, .int .i64 f7, .int .i64 f8, .string fb, .string fa] from rfl]
  obtain ⟨V3, hV3⟩ : ∃ W, w2.alloc (.cells #[.int .i64 f1, .int .i64 f2, .int .i64 f3, .int .i64 f4, .int .i64 f5, .int .i64 f6, .int .i64 f7, .int .i64 f8, .string fb, .string fa] 75) = W := ⟨_, rfl⟩
  have hbv : Below w2.heap.size w2 V3 := by rw [← hV3]; exact (Below.refl _ _).alloc (Nat.le_refl _) _
  have B3 : Hid (Below w.heap.size w V3) := B2.out.trans (hbv.mono B2.out.size)
  have BR3 : Hid (Box V3 w.heap.size 75 #[.int .i64 0, .int .i64 0, .int .i64 0, .int .i64 0, .int .i64 0, .int .i64 0, .int .i64 0, .int .i64 0, .string ⟨#[]⟩, .string ⟨#[]⟩]) := BR2.out.belowS hbv
  have BP3 : Hid (Box V3 w2.heap.size 75 #[.int .i64 f1, .int .i64 f2, .int .i64 f3, .int .i64 f4, .int .i64 f5, .int .i64 f6, .int .i64 f7, .int .i64 f8, .string fb, .string fa]) := by unfold Hid; rw [← hV3]; exact Box.new _ _ _
  clear hbv B2 BR2
  obtain ⟨p0, p1, p2, p3, p4, p5, p6, p7, p8, p9⟩ := box10 BP3.out
  obtain ⟨u0, u1, u2, u3, u4, u5, u6, u7, u8, u9⟩ := box10 BR3.out
  obtain ⟨t0, t1, t2, t3, t4, t5, t6, t7, t8, t9⟩ := thaw10 BR3.out
  cases hd : rrD (headZ zs) with
  | none =>
    have E : Hid (rdC2 zs = 3 ∧ rdR2 zs = zeroR) := rq3 (by have := HL.out; omega) HU.out hd
    clear hd HD
    rw [Option.isSome_none]
    go_wp2
    refine retR2 (D := zeroR) Tryd.results46 rfl rfl rfl (put10_box (D0 := zeroR) BR3.out zeroR) ⟨?_, put10_below B3.out (Nat.le_refl _) zeroR⟩
    rw [E.out.1, E.out.2]
    rfl
  | some D =>
    have E : Hid (rdC2 zs = 0 ∧ rdR2 zs = ⟨f1, f2, f3, f4, f5, f6, f7, f8, fb, fa⟩) := by have := rq0 (by have := HL.out; omega) HU.out hd; rw [← HD.out D hd] at this; exact this
    clear hd HD
    rw [Option.isSome_some]
    go_wp2
    refine retR2 (D := ⟨f1, f2, f3, f4, f5, f6, f7, f8, fb, fa⟩) Tryd.results46 rfl rfl rfl (put10_box (D0 := zeroR) BR3.out ⟨f1, f2, f3, f4, f5, f6, f7, f8, fb, fa⟩) ⟨?_, put10_below B3.out (Nat.le_refl _) ⟨f1, f2, f3, f4, f5, f6, f7, f8, fb, fa⟩⟩
    rw [E.out.1, E.out.2]
    rfl

end Go.Proofs.YtpomedfofnceeaaDoor
namespace Go.Proofs.YtpomedfofnceeaaDoor
open Go Go.RowKit
attribute [local go_sem ↓] Go.wp_at_zero Go.wp_at_succ


def goodC (n : Nat) (p : PP) : Bool := decide (0 ≤ p.1 ∧ p.1 < n) && decide (p.2.size ≤ 160)
/-- A right disk. -/
def okD (D : DD) : Bool := decide (1 ≤ D.S.length ∧ D.S.length ≤ 100 ∧ D.C.length ≤ 500 ∧ D.K.length ≤ 500) && ((D.S.all fun s => decide (s.size ≤ 160)) && ((D.C.all (goodC D.S.length)) && (D.A || D.K.isEmpty)))
theorem ok_no {D : DD} (h : ¬ (1 ≤ D.S.length ∧ D.S.length ≤ 100 ∧ D.C.length ≤ 500 ∧ D.K.length ≤ 500)) : okD D = false := by unfold okD; rw [decide_eq_false h]; rfl
theorem ok_no1 {D : DD} (i : Nat) (hi : i < D.S.length) (h : 160 < (D.S.getD i ⟨#[]⟩).size) : okD D = false := by
  have : (D.S.all fun s => decide (s.size ≤ 160)) = false := by
    rw [List.all_eq_false]
    refine ⟨D.S[i], List.getElem_mem hi, ?_⟩
    rw [List.getD_eq_getElem?_getD, List.getElem?_eq_getElem hi] at h
    simp at h ⊢; omega
  unfold okD; rw [this]; simp
theorem ok_no2 {D : DD} (i : Nat) (hi : i < D.C.length) (h : goodC D.S.length (D.C.getD i dP) = false) : okD D = false := by
  have : D.C.all (goodC D.S.length) = false := by
    rw [List.all_eq_false]
    refine ⟨D.C[i], List.getElem_mem hi, ?_⟩
    rw [List.getD_eq_getElem?_getD, List.getElem?_eq_getElem hi] at h
    simp at h ⊢; exact h
  unfold okD; rw [this]; simp
theorem ok_no3 {D : DD} (h : D.A = false) (h' : D.K ≠ []) : okD D = false := by
  have : (D.A || D.K.isEmpty) = false := by rw [h]; cases hk : D.K <;> simp_all
  unfold okD; rw [this]; simp
theorem ok_yes {D : DD} (h : 1 ≤ D.S.length ∧ D.S.length ≤ 100 ∧ D.C.length ≤ 500 ∧ D.K.length ≤ 500) (h1 : ∀ j, j < D.S.length → (D.S.getD j ⟨#[]⟩).size ≤ 160) (h2 : ∀ j, j < D.C.length → goodC D.S.length (D.C.getD j dP) = true) (h3 : D.A = true ∨ D.K = []) : okD D = true := by
  have e1 : (D.S.all fun s => decide (s.size ≤ 160)) = true := by
    rw [List.all_eq_true]
    intro x hx
    obtain ⟨i, hi, rfl⟩ := List.getElem_of_mem hx
    have := h1 i hi
    rw [List.getD_eq_getElem?_getD, List.getElem?_eq_getElem hi] at this
    exact decide_eq_true this
  have e2 : D.C.all (goodC D.S.length) = true := by
    rw [List.all_eq_true]
    intro x hx
    obtain ⟨i, hi, rfl⟩ := List.getElem_of_mem hx
    have := h2 i hi
    rwa [List.getD_eq_getElem?_getD, List.getElem?_eq_getElem hi] at this
  have e3 : (D.A || D.K.isEmpty) = true := by rcases h3 with h | h <;> simp [h]
  unfold okD; rw [decide_eq_true h, e1, e2, e3]; rfl
theorem ok_last {D : DD} (h : 1 ≤ D.S.length ∧ D.S.length ≤ 100 ∧ D.C.length ≤ 500 ∧ D.K.length ≤ 500) (h1 : ∀ j, j < D.S.length → (D.S.getD j ⟨#[]⟩).size ≤ 160) (h2 : ∀ j, j < D.C.length → goodC D.S.length (D.C.getD j dP) = true) : okD D = (D.A || D.K.isEmpty) := by
  by_cases h3 : D.A = true ∨ D.K = []
  · rw [ok_yes h h1 h2 h3]; rcases h3 with h | h <;> simp [h]
  · have hA : D.A = false := by cases hA : D.A; rfl; exact absurd (.inl hA) h3
    have hK : D.K ≠ [] := fun e => h3 (.inr e)
    rw [ok_no3 hA hK, hA]; cases hk : D.K <;> simp_all
set_option maxRecDepth 100000 in
set_option maxHeartbeats 4000000 in
theorem c_specOK (h : HD) (D : DD) (w : World) (r : RdD w h D) (hf : Fit D) :
    Calls Tryd.prog 71 #[.agg #[.slice h.a0 h.n0 h.c0, .slice h.a1 h.n1 h.c1, .bool h.b, .slice h.a2 h.n2 h.c2]] w fun e w' => e = .returned (.bool (okD D)) ∧ Below w.heap.size w w' := by
  have k0 := r.l0
  have k1 := r.l1
  have k2 := r.l2
  obtain ⟨f0, f1, f2, f3, f4⟩ := hf
  obtain ⟨rb, r0, r1, r2⟩ := r
  obtain ⟨a0, n0, c0, a1, n1, c1, b, a2, n2, c2⟩ := h
  simp only at *
  have HB : Hid (Below w.heap.size w (w.alloc (.cells #[.slice a0 n0 c0, .slice a1 n1 c1, .bool b, .slice a2 n2 c2] 26))) := (Below.refl _ _).alloc (Nat.le_refl _) _
  have BX : Hid (Box (w.alloc (.cells #[.slice a0 n0 c0, .slice a1 n1 c1, .bool b, .slice a2 n2 c2] 26)) w.heap.size 26 #[.slice a0 n0 c0, .slice a1 n1 c1, .bool b, .slice a2 n2 c2]) := Box.new _ _ _
  cases hin : inB (n0 : Int) 1 100
  · have E : Hid (okD D = false) := ok_no (by rw [k0, k1, k2]; unfold inB at hin; have := of_decide_eq_false hin; omega)
    clear HB BX r0 r1 r2 f3 f4
    go_enter Tryd.func71, Tryd.ntmps71
    go_wp2_with (go_at_call 72; refine (c_in _ _ _ _).mono ?_; rintro e w' ⟨rfl, rfl⟩)
    go_ret
    exact ⟨ret_bool E.out.symm, (Below.refl _ _).alloc (Nat.le_refl _) _⟩
  · have hn : 1 ≤ n0 ∧ n0 ≤ 100 := by unfold inB at hin; have := of_decide_eq_true hin; omega
    by_cases q3 : 500 < n1
    · have E : Hid (okD D = false) := ok_no (by rw [k0, k1, k2]; omega)
      clear HB BX r0 r1 r2 f3 f4
      go_enter Tryd.func71, Tryd.ntmps71
      go_wp2_with (go_at_call 72; refine (c_in _ _ _ _).mono ?_; rintro e w' ⟨rfl, rfl⟩)
      go_ret
      exact ⟨ret_bool E.out.symm, (Below.refl _ _).alloc (Nat.le_refl _) _⟩
    · by_cases q4 : 500 < n2
      · have E : Hid (okD D = false) := ok_no (by rw [k0, k1, k2]; omega)
        clear HB BX r0 r1 r2 f3 f4
        go_enter Tryd.func71, Tryd.ntmps71
        go_wp2_with (go_at_call 72; refine (c_in _ _ _ _).mono ?_; rintro e w' ⟨rfl, rfl⟩)
        go_ret
        exact ⟨ret_bool E.out.symm, (Below.refl _ _).alloc (Nat.le_refl _) _⟩
      · cases b
        · by_cases q5 : 0 < n2
          · have E : Hid (okD D = false) := ok_no3 (by rw [← rb]) (fun e => by rw [e] at k2; simp at k2; omega)
            clear HB BX r0 r1 r2 f3 f4 rb
            go_enter Tryd.func71, Tryd.ntmps71
            go_wp2_with (go_at_call 72; refine (c_in _ _ _ _).mono ?_; rintro e w' ⟨rfl, rfl⟩)
            go_ret
            exact ⟨ret_bool E.out.symm, (Below.refl _ _).alloc (Nat.le_refl _) _⟩
          · have HA : Hid (D.A = true ∨ D.K = []) := .inr (List.eq_nil_of_length_eq_zero (by omega))
            obtain ⟨b0, off, rfl, hbl, hc0⟩ := r0.2 (by omega)
            have HBL : Hid (b0 < w.heap.size) := hbl
            have HC0 : Hid (∀ i, i < n0 → w.cell? ⟨b0, off + i, none⟩ = (D.S.map Value.string)[i]?) := hc0
            have R1 : Hid (RdP w a1 n1 D.C) := r1
            have F3 : Hid (∀ s ∈ D.S, s.size ≤ 1048576) := f3
            have F4 : Hid (∀ p ∈ D.C, p.2.size ≤ 1048576) := f4
            have RB : Hid (false = D.A) := rb
            clear r0 r1 r2 f3 f4 rb hbl hc0
            go_enter Tryd.func71, Tryd.ntmps71
            go_wp2_with (go_at_call 72; refine (c_in _ _ _ _).mono ?_; rintro e w' ⟨rfl, rfl⟩)
            go_loop [4] (fun i => ∃ k : Nat, k ≤ n0 ∧ i = .int .i64 k ∧ Hid (∀ j, j < k → (D.S.getD j ⟨#[]⟩).size ≤ 160)) (fun i => n0 - (intOf i).toNat)
            case atStart => exact ⟨0, by omega, rfl, fun j h => absurd h (by omega)⟩
            case round =>
              obtain ⟨k, hk, rfl, HS⟩ := hrel
              by_cases hlt : k < n0
              · obtain ⟨x, hx⟩ : ∃ x, x = D.S.getD k ⟨#[]⟩ := ⟨_, rfl⟩
                have hck : w.cell? ⟨b0, off + k, none⟩ = some (.string x) := by rw [hx, HC0.out k hlt]; exact map_get _ _ _ _ (by omega)
                have hck2 : (w.alloc (.cells #[.slice (some ⟨b0, off, none⟩) n0 c0, .slice a1 n1 c1, .bool false, .slice a2 n2 c2] 26)).cell? ⟨b0, off + k, none⟩ = some (.string x) := (HB.out.cell (p := ⟨b0, off + k, none⟩) HBL.out).trans hck
                have hxs : x.size ≤ 1048576 := by rw [hx]; exact F3.out _ (by rw [List.getD_eq_getElem?_getD, List.getElem?_eq_getElem (by omega)]; exact List.getElem_mem (by omega))
                have HX : Hid (x = D.S.getD k ⟨#[]⟩) := hx
                clear hx hck
                by_cases hbig : 160 < x.size
                · have E : Hid (okD D = false) := ok_no1 k (by omega) (by rw [← HX.out]; exact hbig)
                  go_wp2
                  go_ret
                  exact ⟨ret_bool E.out.symm, HB.out⟩
                · have HG : Hid (¬ 160 < x.size) := hbig
                  go_wp2
                  go_round
                  case rel => exact ⟨k + 1, by omega, by go_num, fun j hj => if e : j = k then by rw [e, ← HX.out]; have := HG.out; omega else HS.out j (by omega)⟩
                  case measure => simp [intOf]; omega
              · have e : n0 = k := by omega
                subst e
                go_wp2
                go_loopw [5] (fun i wr => ∃ k2 : Nat, k2 ≤ n1 ∧ i = .int .i64 k2 ∧ Hid (∀ j, j < k2 → goodC n0 (D.C.getD j dP) = true) ∧ Box wr w.heap.size 26 #[.slice (some ⟨b0, off, none⟩) n0 c0, .slice a1 n1 c1, .bool false, .slice a2 n2 c2] ∧ Below w.heap.size w wr) (fun i _ => n1 - (intOf i).toNat)
                case atStart => exact ⟨0, by omega, rfl, fun j h => absurd h (by omega), BX.out, HB.out⟩
                case round =>
                  obtain ⟨k2, hk2, rfl, HT, bx, hb⟩ := hrel
                  have v0 := bx.cell 0
                  have v1 := bx.cell 1
                  have v2 := bx.cell 2
                  have v3 := bx.cell 3
                  simp at v0 v1 v2 v3
                  by_cases hlt2 : k2 < n1
                  · obtain ⟨bb, off1, rfl, hbl, hc⟩ := R1.out.2 (by omega)
                    obtain ⟨⟨xa, xt⟩, hx⟩ : ∃ x, x = D.C.getD k2 dP := ⟨_, rfl⟩
                    obtain ⟨d0, d1⟩ := hc k2 hlt2
                    rw [← hx] at d0 d1
                    have e0 : wr.cell? ⟨bb, off1 + k2 * 2, none⟩ = some (.int .i64 xa) := (hb.cell (p := ⟨bb, off1 + k2 * 2, none⟩) hbl).trans d0
                    have e1 : wr.cell? ⟨bb, off1 + k2 * 2 + 1, none⟩ = some (.string xt) := (hb.cell (p := ⟨bb, off1 + k2 * 2 + 1, none⟩) hbl).trans d1
                    have hxs : xt.size ≤ 1048576 := by
                      have := F4.out (D.C.getD k2 dP) (by rw [List.getD_eq_getElem?_getD, List.getElem?_eq_getElem (by omega)]; exact List.getElem_mem (by omega))
                      rw [← hx] at this
                      exact this
                    have HX : Hid ((xa, xt) = D.C.getD k2 dP) := hx
                    have HB' : Hid (Below w.heap.size w wr) := hb
                    have HBX : Hid (Box wr w.heap.size 26 _) := bx
                    have hsz : w.heap.size < wr.heap.size := bx.lt
                    clear hc hx d0 d1 hb bx
                    cases hin2 : inB xa 0 ((n0 : Int) - 1)
                    · have E : Hid (okD D = false) := ok_no2 k2 (by omega) (by rw [← HX.out, k0]; unfold goodC; unfold inB at hin2; rw [decide_eq_false (by have := of_decide_eq_false hin2; omega)]; rfl)
                      go_wp2_with (go_at_call 72; refine (c_in _ _ _ _).mono ?_; rintro e w' ⟨rfl, rfl⟩)
                      go_ret
                      exact ⟨ret_bool E.out.symm, HB'.out.alloc (by omega) _⟩
                    · by_cases hbig : 160 < xt.size
                      · have E : Hid (okD D = false) := ok_no2 k2 (by omega) (by rw [← HX.out]; unfold goodC; rw [decide_eq_false (p := xt.size ≤ 160) (by omega), Bool.and_false])
                        go_wp2_with (go_at_call 72; refine (c_in _ _ _ _).mono ?_; rintro e w' ⟨rfl, rfl⟩)
                        go_ret
                        exact ⟨ret_bool E.out.symm, HB'.out.alloc (by omega) _⟩
                      · have HG : Hid (goodC n0 (xa, xt) = true) := by unfold Hid goodC; unfold inB at hin2; rw [decide_eq_true (by have := of_decide_eq_true hin2; omega), decide_eq_true (p := xt.size ≤ 160) (by omega)]; rfl
                        go_wp2_with (go_at_call 72; refine (c_in _ _ _ _).mono ?_; rintro e w' ⟨rfl, rfl⟩)
                        go_roundw
                        case rel => exact ⟨k2 + 1, by omega, by go_num, fun j hj => if e : j = k2 then by rw [e, ← HX.out]; exact HG.out else HT.out j (by omega), HBX.out.alloc _, HB'.out.alloc (by omega) _⟩
                        case measure => simp [intOf]; omega
                  · have e : n1 = k2 := by omega
                    subst e
                    have E : Hid (okD D = true) := ok_yes ⟨by omega, by omega, by omega, by omega⟩ (by rw [k0]; exact HS.out) (by rw [k0, k1]; exact HT.out) HA.out
                    go_wp2
                    go_ret
                    exact ⟨ret_bool E.out.symm, hb⟩
        · have HA : Hid (D.A = true ∨ D.K = []) := .inl rb.symm
          obtain ⟨b0, off, rfl, hbl, hc0⟩ := r0.2 (by omega)
          have HBL : Hid (b0 < w.heap.size) := hbl
          have HC0 : Hid (∀ i, i < n0 → w.cell? ⟨b0, off + i, none⟩ = (D.S.map Value.string)[i]?) := hc0
          have R1 : Hid (RdP w a1 n1 D.C) := r1
          have F3 : Hid (∀ s ∈ D.S, s.size ≤ 1048576) := f3
          have F4 : Hid (∀ p ∈ D.C, p.2.size ≤ 1048576) := f4
          have RB : Hid (true = D.A) := rb
          clear r0 r1 r2 f3 f4 rb hbl hc0
          go_enter Tryd.func71, Tryd.ntmps71
          go_wp2_with (go_at_call 72; refine (c_in _ _ _ _).mono ?_; rintro e w' ⟨rfl, rfl⟩)
          go_loop [4] (fun i => ∃ k : Nat, k ≤ n0 ∧ i = .int .i64 k ∧ Hid (∀ j, j < k → (D.S.getD j ⟨#[]⟩).size ≤ 160)) (fun i => n0 - (intOf i).toNat)
          case atStart => exact ⟨0, by omega, rfl, fun j h => absurd h (by omega)⟩
          case round =>
            obtain ⟨k, hk, rfl, HS⟩ := hrel
            by_cases hlt : k < n0
            · obtain ⟨x, hx⟩ : ∃ x, x = D.S.getD k ⟨#[]⟩ := ⟨_, rfl⟩
              have hck : w.cell? ⟨b0, off + k, none⟩ = some (.string x) := by rw [hx, HC0.out k hlt]; exact map_get _ _ _ _ (by omega)
              have hck2 : (w.alloc (.cells #[.slice (some ⟨b0, off, none⟩) n0 c0, .slice a1 n1 c1, .bool true, .slice a2 n2 c2] 26)).cell? ⟨b0, off + k, none⟩ = some (.string x) := (HB.out.cell (p := ⟨b0, off + k, none⟩) HBL.out).trans hck
              have hxs : x.size ≤ 1048576 := by rw [hx]; exact F3.out _ (by rw [List.getD_eq_getElem?_getD, List.getElem?_eq_getElem (by omega)]; exact List.getElem_mem (by omega))
              have HX : Hid (x = D.S.getD k ⟨#[]⟩) := hx
              clear hx hck
              by_cases hbig : 160 < x.size
              · have E : Hid (okD D = false) := ok_no1 k (by omega) (by rw [← HX.out]; exact hbig)
                go_wp2
                go_ret
                exact ⟨ret_bool E.out.symm, HB.out⟩
              · have HG : Hid (¬ 160 < x.size) := hbig
                go_wp2
                go_round
                case rel => exact ⟨k + 1, by omega, by go_num, fun j hj => if e : j = k then by rw [e, ← HX.out]; have := HG.out; omega else HS.out j (by omega)⟩
                case measure => simp [intOf]; omega
            · have e : n0 = k := by omega
              subst e
              go_wp2
              go_loopw [5] (fun i wr => ∃ k2 : Nat, k2 ≤ n1 ∧ i = .int .i64 k2 ∧ Hid (∀ j, j < k2 → goodC n0 (D.C.getD j dP) = true) ∧ Box wr w.heap.size 26 #[.slice (some ⟨b0, off, none⟩) n0 c0, .slice a1 n1 c1, .bool true, .slice a2 n2 c2] ∧ Below w.heap.size w wr) (fun i _ => n1 - (intOf i).toNat)
              case atStart => exact ⟨0, by omega, rfl, fun j h => absurd h (by omega), BX.out, HB.out⟩
              case round =>
                obtain ⟨k2, hk2, rfl, HT, bx, hb⟩ := hrel
                have v0 := bx.cell 0
                have v1 := bx.cell 1
                have v2 := bx.cell 2
                have v3 := bx.cell 3
                simp at v0 v1 v2 v3
                by_cases hlt2 : k2 < n1
                · obtain ⟨bb, off1, rfl, hbl, hc⟩ := R1.out.2 (by omega)
                  obtain ⟨⟨xa, xt⟩, hx⟩ : ∃ x, x = D.C.getD k2 dP := ⟨_, rfl⟩
                  obtain ⟨d0, d1⟩ := hc k2 hlt2
                  rw [← hx] at d0 d1
                  have e0 : wr.cell? ⟨bb, off1 + k2 * 2, none⟩ = some (.int .i64 xa) := (hb.cell (p := ⟨bb, off1 + k2 * 2, none⟩) hbl).trans d0
                  have e1 : wr.cell? ⟨bb, off1 + k2 * 2 + 1, none⟩ = some (.string xt) := (hb.cell (p := ⟨bb, off1 + k2 * 2 + 1, none⟩) hbl).trans d1
                  have hxs : xt.size ≤ 1048576 := by
                    have := F4.out (D.C.getD k2 dP) (by rw [List.getD_eq_getElem?_getD, List.getElem?_eq_getElem (by omega)]; exact List.getElem_mem (by omega))
                    rw [← hx] at this
                    exact this
                  have HX : Hid ((xa, xt) = D.C.getD k2 dP) := hx
                  have HB' : Hid (Below w.heap.size w wr) := hb
                  have HBX : Hid (Box wr w.heap.size 26 _) := bx
                  have hsz : w.heap.size < wr.heap.size := bx.lt
                  clear hc hx d0 d1 hb bx
                  cases hin2 : inB xa 0 ((n0 : Int) - 1)
                  · have E : Hid (okD D = false) := ok_no2 k2 (by omega) (by rw [← HX.out, k0]; unfold goodC; unfold inB at hin2; rw [decide_eq_false (by have := of_decide_eq_false hin2; omega)]; rfl)
                    go_wp2_with (go_at_call 72; refine (c_in _ _ _ _).mono ?_; rintro e w' ⟨rfl, rfl⟩)
                    go_ret
                    exact ⟨ret_bool E.out.symm, HB'.out.alloc (by omega) _⟩
                  · by_cases hbig : 160 < xt.size
                    · have E : Hid (okD D = false) := ok_no2 k2 (by omega) (by rw [← HX.out]; unfold goodC; rw [decide_eq_false (p := xt.size ≤ 160) (by omega), Bool.and_false])
                      go_wp2_with (go_at_call 72; refine (c_in _ _ _ _).mono ?_; rintro e w' ⟨rfl, rfl⟩)
                      go_ret
                      exact ⟨ret_bool E.out.symm, HB'.out.alloc (by omega) _⟩
                    · have HG : Hid (goodC n0 (xa, xt) = true) := by unfold Hid goodC; unfold inB at hin2; rw [decide_eq_true (by have := of_decide_eq_true hin2; omega), decide_eq_true (p := xt.size ≤ 160) (by omega)]; rfl
                      go_wp2_with (go_at_call 72; refine (c_in _ _ _ _).mono ?_; rintro e w' ⟨rfl, rfl⟩)
                      go_roundw
                      case rel => exact ⟨k2 + 1, by omega, by go_num, fun j hj => if e : j = k2 then by rw [e, ← HX.out]; exact HG.out else HT.out j (by omega), HBX.out.alloc _, HB'.out.alloc (by omega) _⟩
                      case measure => simp [intOf]; omega
                · have e : n1 = k2 := by omega
                  subst e
                  have E : Hid (okD D = true) := ok_yes ⟨by omega, by omega, by omega, by omega⟩ (by rw [k0]; exact HS.out) (by rw [k0, k1]; exact HT.out) HA.out
                  go_wp2
                  go_ret
                  exact ⟨ret_bool E.out.symm, hb⟩

end Go.Proofs.YtpomedfofnceeaaDoor
namespace Go.Proofs.YtpomedfofnceeaaDoor
open Go Go.RowKit
attribute [local go_sem ↓] Go.wp_at_zero Go.wp_at_succ


set_option maxRecDepth 100000 in
theorem c_has (a0 : Option Addr) (n0 c0 : Nat) (a1 : Option Addr) (n1 c1 : Nat) (b : Bool) (a2 : Option Addr) (n2 c2 : Nat) (x : Int) (w : World) :
    Calls Tryd.prog 92 #[.agg #[.slice a0 n0 c0, .slice a1 n1 c1, .bool b, .slice a2 n2 c2], .int .i64 x] w fun e w' => e = .returned (.bool (decide (0 ≤ x ∧ x < n0))) ∧ Below w.heap.size w w' := by
  by_cases h1 : 0 ≤ x <;> by_cases h2 : x < n0
  all_goals
    go_enter Tryd.func92, Tryd.ntmps92
    go_wp2
    go_ret
    exact ⟨ret_bool (by simp [h1, h2]), (Below.refl _ _).alloc (Nat.le_refl _) _⟩
set_option maxRecDepth 100000 in
set_option maxHeartbeats 4000000 in
theorem c_implOK (h : HD) (D : DD) (w : World) (r : RdD w h D) (hf : Fit D) :
    Calls Tryd.prog 79 #[.agg #[.slice h.a0 h.n0 h.c0, .slice h.a1 h.n1 h.c1, .bool h.b, .slice h.a2 h.n2 h.c2]] w fun e w' => e = .returned (.bool (okD D)) ∧ Below w.heap.size w w' := by
  have k0 := r.l0
  have k1 := r.l1
  have k2 := r.l2
  obtain ⟨f0, f1, f2, f3, f4⟩ := hf
  obtain ⟨rb, r0, r1, r2⟩ := r
  obtain ⟨a0, n0, c0, a1, n1, c1, b, a2, n2, c2⟩ := h
  simp only at *
  have HB : Hid (Below w.heap.size w (w.alloc (.cells #[.slice a0 n0 c0, .slice a1 n1 c1, .bool b, .slice a2 n2 c2] 26))) := (Below.refl _ _).alloc (Nat.le_refl _) _
  have BX : Hid (Box (w.alloc (.cells #[.slice a0 n0 c0, .slice a1 n1 c1, .bool b, .slice a2 n2 c2] 26)) w.heap.size 26 #[.slice a0 n0 c0, .slice a1 n1 c1, .bool b, .slice a2 n2 c2]) := Box.new _ _ _
  by_cases q1 : n0 < 1
  · have E : Hid (okD D = false) := ok_no (by rw [k0, k1, k2]; omega)
    clear HB BX r0 r1 r2 f3 f4
    go_enter Tryd.func79, Tryd.ntmps79
    go_wp2
    go_ret
    exact ⟨ret_bool E.out.symm, (Below.refl _ _).alloc (Nat.le_refl _) _⟩
  · by_cases q2 : 100 < n0
    · have E : Hid (okD D = false) := ok_no (by rw [k0, k1, k2]; omega)
      clear HB BX r0 r1 r2 f3 f4
      go_enter Tryd.func79, Tryd.ntmps79
      go_wp2
      go_ret
      exact ⟨ret_bool E.out.symm, (Below.refl _ _).alloc (Nat.le_refl _) _⟩
    · by_cases q3 : 500 < n1
      · have E : Hid (okD D = false) := ok_no (by rw [k0, k1, k2]; omega)
        clear HB BX r0 r1 r2 f3 f4
        go_enter Tryd.func79, Tryd.ntmps79
        go_wp2
        go_ret
        exact ⟨ret_bool E.out.symm, (Below.refl _ _).alloc (Nat.le_refl _) _⟩
      · by_cases q4 : 500 < n2
        · have E : Hid (okD D = false) := ok_no (by rw [k0, k1, k2]; omega)
          clear HB BX r0 r1 r2 f3 f4
          go_enter Tryd.func79, Tryd.ntmps79
          go_wp2
          go_ret
          exact ⟨ret_bool E.out.symm, (Below.refl _ _).alloc (Nat.le_refl _) _⟩
        · have hn : 1 ≤ n0 ∧ n0 ≤ 100 := by omega
          obtain ⟨b0, off, rfl, hbl, hc0⟩ := r0.2 (by omega)
          have HBL : Hid (b0 < w.heap.size) := hbl
          have HC0 : Hid (∀ i, i < n0 → w.cell? ⟨b0, off + i, none⟩ = (D.S.map Value.string)[i]?) := hc0
          have R1 : Hid (RdP w a1 n1 D.C) := r1
          have F3 : Hid (∀ s ∈ D.S, s.size ≤ 1048576) := f3
          have F4 : Hid (∀ p ∈ D.C, p.2.size ≤ 1048576) := f4
          have RB : Hid (b = D.A) := rb
          clear r0 r1 r2 f3 f4 rb hbl hc0
          go_enter Tryd.func79, Tryd.ntmps79
          go_wp2
          go_loop [32] (fun i => ∃ k : Nat, k ≤ n0 ∧ i = .int .i64 k ∧ Hid (∀ j, j < k → (D.S.getD j ⟨#[]⟩).size ≤ 160)) (fun i => n0 - (intOf i).toNat)
          case atStart => exact ⟨0, by omega, rfl, fun j h => absurd h (by omega)⟩
          case round =>
            obtain ⟨k, hk, rfl, HS⟩ := hrel
            by_cases hlt : k < n0
            · obtain ⟨x, hx⟩ : ∃ x, x = D.S.getD k ⟨#[]⟩ := ⟨_, rfl⟩
              have hck : w.cell? ⟨b0, off + k, none⟩ = some (.string x) := by rw [hx, HC0.out k hlt]; exact map_get _ _ _ _ (by omega)
              have hck2 : (w.alloc (.cells #[.slice (some ⟨b0, off, none⟩) n0 c0, .slice a1 n1 c1, .bool b, .slice a2 n2 c2] 26)).cell? ⟨b0, off + k, none⟩ = some (.string x) := (HB.out.cell (p := ⟨b0, off + k, none⟩) HBL.out).trans hck
              have hxs : x.size ≤ 1048576 := by rw [hx]; exact F3.out _ (by rw [List.getD_eq_getElem?_getD, List.getElem?_eq_getElem (by omega)]; exact List.getElem_mem (by omega))
              have HX : Hid (x = D.S.getD k ⟨#[]⟩) := hx
              clear hx hck
              by_cases hbig : 160 < x.size
              · have E : Hid (okD D = false) := ok_no1 k (by omega) (by rw [← HX.out]; exact hbig)
                go_wp2
                go_ret
                exact ⟨ret_bool E.out.symm, HB.out⟩
              · have HG : Hid (¬ 160 < x.size) := hbig
                go_wp2
                go_round
                case rel => exact ⟨k + 1, by omega, by go_num, fun j hj => if e : j = k then by rw [e, ← HX.out]; have := HG.out; omega else HS.out j (by omega)⟩
                case measure => simp [intOf]; omega
            · have e : n0 = k := by omega
              subst e
              go_wp2
              go_loopw [43] (fun i wr => ∃ k2 : Nat, k2 ≤ n1 ∧ i = .int .i64 k2 ∧ Hid (∀ j, j < k2 → goodC n0 (D.C.getD j dP) = true) ∧ Box wr w.heap.size 26 #[.slice (some ⟨b0, off, none⟩) n0 c0, .slice a1 n1 c1, .bool b, .slice a2 n2 c2] ∧ Below w.heap.size w wr) (fun i _ => n1 - (intOf i).toNat)
              case atStart => exact ⟨0, by omega, rfl, fun j h => absurd h (by omega), BX.out, HB.out⟩
              case round =>
                obtain ⟨k2, hk2, rfl, HT, bx, hb⟩ := hrel
                have v0 := bx.cell 0
                have v1 := bx.cell 1
                have v2 := bx.cell 2
                have v3 := bx.cell 3
                simp at v0 v1 v2 v3
                by_cases hlt2 : k2 < n1
                · obtain ⟨bb, off1, rfl, hbl, hc⟩ := R1.out.2 (by omega)
                  obtain ⟨⟨xa, xt⟩, hx⟩ : ∃ x, x = D.C.getD k2 dP := ⟨_, rfl⟩
                  obtain ⟨d0, d1⟩ := hc k2 hlt2
                  rw [← hx] at d0 d1
                  have e0 : wr.cell? ⟨bb, off1 + k2 * 2, none⟩ = some (.int .i64 xa) := (hb.cell (p := ⟨bb, off1 + k2 * 2, none⟩) hbl).trans d0
                  have e1 : wr.cell? ⟨bb, off1 + k2 * 2 + 1, none⟩ = some (.string xt) := (hb.cell (p := ⟨bb, off1 + k2 * 2 + 1, none⟩) hbl).trans d1
                  have hxs : xt.size ≤ 1048576 := by
                    have := F4.out (D.C.getD k2 dP) (by rw [List.getD_eq_getElem?_getD, List.getElem?_eq_getElem (by omega)]; exact List.getElem_mem (by omega))
                    rw [← hx] at this
                    exact this
                  have HX : Hid ((xa, xt) = D.C.getD k2 dP) := hx
                  have HB' : Hid (Below w.heap.size w wr) := hb
                  have HBX : Hid (Box wr w.heap.size 26 _) := bx
                  have hsz : w.heap.size < wr.heap.size := bx.lt
                  clear hc hx d0 d1 hb bx
                  have HE : Hid (Below w.heap.size w (wr.alloc (.cells #[.int .i64 xa, .string xt] 156))) := HB'.out.alloc (by omega) _
                  have HBY : Hid (Box (wr.alloc (.cells #[.int .i64 xa, .string xt] 156)) wr.heap.size 156 #[.int .i64 xa, .string xt]) := Box.new _ _ _
                  have HBZ : Hid (Box (wr.alloc (.cells #[.int .i64 xa, .string xt] 156)) w.heap.size 26 _) := HBX.out.alloc _
                  obtain ⟨t, ht⟩ : ∃ t, t = decide (0 ≤ xa ∧ xa < (n0 : Int)) := ⟨_, rfl⟩
                  have HT2 : Hid (t = decide (0 ≤ xa ∧ xa < (n0 : Int))) := ht
                  clear ht
                  go_wp2_with fail
                  refine (c_has _ n0 _ _ _ _ _ _ _ _ xa _).mono ?_
                  rintro e w3 ⟨rfl, hb3⟩
                  rw [← HT2.out]
                  have HE3 : Hid (Below w.heap.size w w3) := HE.out.trans (hb3.mono HE.out.size)
                  have y3 := HBY.out.belowS hb3
                  have z3 := HBZ.out.belowS hb3
                  have HZ3 : Hid (Box w3 w.heap.size 26 _) := z3
                  have u0 := y3.cell 0
                  have u1 := y3.cell 1
                  simp at u0 u1
                  clear hb3 y3 z3 HE HBY HBZ HB' HBX v0 v1 v2 v3 e0 e1
                  cases t
                  · have E : Hid (okD D = false) := ok_no2 k2 (by omega) (by rw [← HX.out, k0]; unfold goodC; rw [← HT2.out]; rfl)
                    go_wp2
                    go_ret
                    exact ⟨ret_bool E.out.symm, HE3.out⟩
                  · by_cases hbig : 160 < xt.size
                    · have E : Hid (okD D = false) := ok_no2 k2 (by omega) (by rw [← HX.out]; unfold goodC; rw [decide_eq_false (p := xt.size ≤ 160) (by omega), Bool.and_false])
                      go_wp2
                      go_ret
                      exact ⟨ret_bool E.out.symm, HE3.out⟩
                    · have HG : Hid (goodC n0 (xa, xt) = true) := by unfold Hid goodC; rw [← HT2.out, decide_eq_true (p := xt.size ≤ 160) (by omega)]; rfl
                      go_wp2
                      go_roundw
                      case rel => exact ⟨k2 + 1, by omega, by go_num, fun j hj => if e : j = k2 then by rw [e, ← HX.out]; exact HG.out else HT.out j (by omega), HZ3.out, HE3.out⟩
                      case measure => simp [intOf]; omega
                · have e : n1 = k2 := by omega
                  subst e
                  have E : Hid (∀ t : Bool, t = (D.A || D.K.isEmpty) → okD D = t) := fun t ht => by
                    rw [ht]; exact ok_last ⟨by omega, by omega, by omega, by omega⟩ (by rw [k0]; exact HS.out) (by rw [k0, k1]; exact HT.out)
                  have HK : Hid (D.K.isEmpty = decide (n2 = 0)) := by unfold Hid; rw [← k2]; cases D.K <;> simp
                  cases b
                  · by_cases hz : n2 = 0
                    · subst hz
                      have EE : Hid (okD D = true) := E.out true (by rw [← RB.out, HK.out]; rfl)
                      go_wp2
                      go_ret
                      exact ⟨ret_bool EE.out.symm, hb⟩
                    · have EE : Hid (okD D = false) := E.out false (by rw [← RB.out, HK.out, decide_eq_false hz]; rfl)
                      have hz' : ((n2 : Int) == 0) = false := by simp; omega
                      go_wp2
                      go_ret
                      exact ⟨ret_bool EE.out.symm, hb⟩
                  · have EE : Hid (okD D = true) := E.out true (by rw [← RB.out]; rfl)
                    go_wp2
                    go_ret
                    exact ⟨ret_bool EE.out.symm, hb⟩

end Go.Proofs.YtpomedfofnceeaaDoor
namespace Go.Proofs.YtpomedfofnceeaaDoor
open Go Go.RowKit Go.Shelf
attribute [local go_sem ↓] Go.wp_at_zero Go.wp_at_succ


abbrev BX := Nat × Int × ByteArray
def bkF (vs : List PP) (len j : Nat) : BX := (len - 1 - j, (vs.getD (len - 1 - j) dP).1, (vs.getD (len - 1 - j) dP).2)
def bkL (vs : List PP) (len k : Nat) : List BX := (List.range k).map (bkF vs len)
theorem bkL_succ (vs : List PP) (len k : Nat) : bkL vs len (k + 1) = bkL vs len k ++ [bkF vs len k] := by simp [bkL, List.range_succ]
theorem bkL_length (vs : List PP) (len k : Nat) : (bkL vs len k).length = k := by simp [bkL]
def encB (x : BX) : Array Value := #[.int .i64 (x.1 : Int), .agg #[.int .i64 x.2.1, .string x.2.2]]
set_option maxRecDepth 100000 in
set_option maxHeartbeats 4000000 in
theorem bk1_in (F : Fence) (n : Nat) (h84 : F.fn 153) (hro : F.round = none) (hn : 1 ≤ n) (l Bs n₀ : Nat) (a : Option Addr) (len cap : Nat) (vs : List PP) (hlen : len ≤ 1048576) (hb : ∀ b off, 0 < len → a = some ⟨b, off, none⟩ → b < n₀) (hBn : Bs < n₀) (J Jx : List BX → World → Prop)
    (hY : ∀ pre x W, J pre W → pre.length < len → YieldAt F (n - 1) Tryd.prog l (encB x) W fun e W' =>
      (e = .returned (.bool true) ∧ J (pre ++ [x]) W' ∧ Below n₀ W W') ∨ (e = .returned (.bool false) ∧ Jx (pre ++ [x]) W'))
    (W : World) (hBs : W.cell? ⟨Bs, 0, none⟩ = some (.slice a len cap)) (hr : RdP W a len vs) (h0 : J [] W) :
    CallsIn F n Tryd.prog 153 #[.func (.yield l) #[] #[], .pointer (some ⟨Bs, 0, none⟩)] W fun e W' => (∃ v, e = .returned v) ∧
      ((∃ ys, ys = bkL vs len len ∧ J ys W') ∨ (∃ pre, (∃ k, k ≤ len ∧ pre = bkL vs len k) ∧ Jx pre W')) := by
  have hl := hr.1
  refine callsIn_of_wp Tryd.func153 rfl h84 ?_ hro
  simp only [Tryd.ntmps153, List.size_toArray, List.length_cons, List.length_nil, Nat.reduceAdd, Nat.reduceSub, Array.replicate_succ, Array.replicate_zero, List.push_toArray, List.append_toArray, List.nil_append, List.cons_append]
  gi_wp2
  gi_loopw [3] (fun i wr => ((∃ p : Nat, i = .int .i64 p ∧ p < len ∧ J (bkL vs len (len - 1 - p)) wr) ∨ (i = .int .i64 (-1) ∧ J (bkL vs len len) wr)) ∧ Below n₀ W wr)
    (fun i _ => (intOf i + 1).toNat)
  case atStart =>
    refine ⟨?_, Below.refl _ _⟩
    rcases Nat.eq_zero_or_pos len with h | h
    · subst h
      exact .inr ⟨rfl, h0⟩
    · refine .inl ⟨len - 1, by go_num, by omega, ?_⟩
      rw [show len - 1 - (len - 1) = 0 by omega]
      exact h0
  case round =>
    obtain ⟨hrel, hnx⟩ := hrel
    have hBw : wr.cell? ⟨Bs, 0, none⟩ = some (.slice a len cap) := (hnx.cell (p := ⟨Bs, 0, none⟩) hBn).trans hBs
    rcases hrel with ⟨p, rfl, hp, hJs⟩ | ⟨rfl, hJs⟩
    · obtain ⟨b, off, rfl, hbl, hc⟩ := hr.2 (by omega)
      have hbn : b < n₀ := hb b off (by omega) rfl
      obtain ⟨⟨xa, xt⟩, hx⟩ : ∃ x, x = vs.getD p dP := ⟨_, rfl⟩
      obtain ⟨d0, d1⟩ := hc p hp
      rw [← hx] at d0 d1
      have e0 : wr.cell? ⟨b, off + p * 2, none⟩ = some (.int .i64 xa) := (hnx.cell (p := ⟨b, off + p * 2, none⟩) hbn).trans d0
      have e1 : wr.cell? ⟨b, off + p * 2 + 1, none⟩ = some (.string xt) := (hnx.cell (p := ⟨b, off + p * 2 + 1, none⟩) hbn).trans d1
      have hF : bkF vs len (len - 1 - p) = (p, xa, xt) := by unfold bkF; rw [show len - 1 - (len - 1 - p) = p by omega, ← hx]
      obtain ⟨fn, tmps, assign, body, hy, hR⟩ := hY _ (p, xa, xt) wr hJs (by rw [bkL_length]; omega)
      dsimp only [encB] at hy
      have HF : Hid (bkL vs len (len - 1 - p) ++ [(p, xa, xt)] = bkL vs len (len - 1 - p + 1)) := by unfold Hid; rw [bkL_succ, hF]
      clear hc hx d0 d1 hF
      gi_wp2
      refine hR.mono ?_
      rintro e W3 (⟨rfl, hJ3, hk3⟩ | ⟨rfl, hJx3⟩)
      · gi_wp2
        go_roundw
        case rel =>
          refine ⟨?_, hnx.trans hk3⟩
          rw [HF.out] at hJ3
          rcases Nat.eq_zero_or_pos p with h | h
          · subst h
            refine .inr ⟨by go_num, ?_⟩
            rw [show len - 1 - 0 + 1 = len by omega] at hJ3
            exact hJ3
          · refine .inl ⟨p - 1, by go_num, by omega, ?_⟩
            rw [show len - 1 - (p - 1) = len - 1 - p + 1 by omega]
            exact hJ3
        case measure => simp [intOf]
      · gi_wp2
        refine bodyPost_ret (results_none rfl _ _ _) rfl ?_
        rw [HF.out] at hJx3
        exact ⟨⟨_, rfl⟩, .inr ⟨_, ⟨len - 1 - p + 1, by omega, rfl⟩, hJx3⟩⟩
    · gi_wp2
      go_end0
      exact ⟨⟨_, rfl⟩, .inl ⟨_, rfl, hJs⟩⟩
set_option maxRecDepth 100000 in
set_option maxHeartbeats 1000000 in
theorem bk_in (F : Fence) (n : Nat) (h78 : F.fn 134) (hro : F.round = none) (a : Option Addr) (len cap : Nat) (w : World) :
    CallsIn F n Tryd.prog 134 #[.slice a len cap] w fun e w' => e = .returned (.func (.func 153) #[] #[.pointer (some ⟨w.heap.size, 0, none⟩)]) ∧ w' = w.alloc (.cells #[.slice a len cap] 23) := by
  refine callsIn_of_wp Tryd.func134 rfl h78 ?_ hro
  simp only [Tryd.ntmps134, List.size_toArray, List.length_cons, List.length_nil, Nat.reduceAdd, Nat.reduceSub, Array.replicate_succ, Array.replicate_zero, List.push_toArray, List.append_toArray, List.nil_append, List.cons_append]
  gi_wp2
  go_ret
  exact ⟨rfl, rfl⟩
theorem bk_stops (F : Fence) (n : Nat) (h84 : F.fn 153) (hro : F.round = none) (hn : 1 ≤ n) (Bs n₀ : Nat) (a : Option Addr) (len cap : Nat) (vs : List PP) (hlen : len ≤ 1048576) (w : World) (hBs : Bs < n₀) (hn₀ : n₀ ≤ w.heap.size)
    (hc : w.cell? ⟨Bs, 0, none⟩ = some (.slice a len cap)) (hr : RdP w a len vs) (hb : ∀ b off, 0 < len → a = some ⟨b, off, none⟩ → b < n₀) :
    SeqStopsK F n Tryd.prog 153 #[.pointer (some ⟨Bs, 0, none⟩)] encB (Below n₀) (fun ys => ys = bkL vs len len) (fun pre => ∃ k, k ≤ len ∧ pre = bkL vs len k) len w := fun l J Jx W hW _ _ hY h0 =>
  bk1_in F n h84 hro hn l Bs n₀ a len cap vs hlen hb hBs J Jx hY W ((hW.cell (p := ⟨Bs, 0, none⟩) (show Bs < w.heap.size by omega)).trans hc) (hr.below hW) h0

end Go.Proofs.YtpomedfofnceeaaDoor
namespace Go.Proofs.YtpomedfofnceeaaDoor
open Go Go.RowKit Go.Shelf
attribute [local go_sem] Oper.semAt_some
attribute [local go_sem ↓] Go.wp_at_zero Go.wp_at_succ


def fdB (ys : List BX) (x : Int) : Option BX := ys.find? fun y => decide (y.2.1 = x)
def vlB (ys : List BX) (x : Int) : ByteArray := ((fdB ys x).map fun y => y.2.2).getD ⟨#[]⟩
/-- What is read of a sector. -/
def rdS (S : List ByteArray) (C : List PP) (j : Nat) : ByteArray := ((fdB (bkL C C.length C.length) j).map fun y => y.2.2).getD (S.getD j ⟨#[]⟩)
theorem fdB_no {ys : List BX} {x : Int} {y : BX} (h : fdB ys x = none) (hy : ¬ y.2.1 = x) : fdB (ys ++ [y]) x = none := by
  unfold fdB at *; rw [List.find?_append, h]; simp [hy]
theorem fdB_yes {ys : List BX} {x : Int} {y : BX} (h : fdB ys x = none) (hy : y.2.1 = x) : fdB (ys ++ [y]) x = some y := by
  unfold fdB at *; rw [List.find?_append, h]; simp [hy]
theorem bkL_split (vs : List PP) (len k : Nat) (h : k ≤ len) : ∃ r, bkL vs len len = bkL vs len k ++ r := by
  refine ⟨((List.range' k (len - k))).map (bkF vs len), ?_⟩
  unfold bkL
  rw [← List.map_append]
  congr 1
  have h2 := List.range'_append_1 (s := 0) (m := k) (n := len - k)
  rw [Nat.zero_add, show k + (len - k) = len by omega] at h2
  rw [List.range_eq_range', List.range_eq_range', h2]
theorem rdS_hit {S : List ByteArray} {C : List PP} {j k : Nat} (hk : k ≤ C.length) {y : BX} (h : fdB (bkL C C.length k) j = some y) : rdS S C j = y.2.2 := by
  obtain ⟨r, hr⟩ := bkL_split C C.length k hk
  unfold rdS
  have : fdB (bkL C C.length C.length) j = some y := by rw [hr]; unfold fdB at *; rw [List.find?_append, h]; rfl
  rw [this]; rfl
theorem rdS_miss {S : List ByteArray} {C : List PP} {j : Nat} (h : fdB (bkL C C.length C.length) j = none) : rdS S C j = S.getD j ⟨#[]⟩ := by unfold rdS; rw [h]; rfl
theorem block_own {β : Type} (B : Nat) (t : TypeId) (c : Array Value) : Own (fun (_ : β) W => Box W B t c) := fun s X Y row hs hg hrow =>
  (hg.block B hs.lt (fun e' => by obtain ⟨o, ho, hc⟩ := hrow B e'.symm; rw [show X.heap[B]? = _ from hs] at ho; cases ho; cases hc)).trans hs
set_option maxRecDepth 100000 in
set_option maxHeartbeats 4000000 in
theorem rs_in (F : Fence) (n : Nat) (h49 : F.fn 93) (h78 : F.fn 134) (h84 : F.fn 153) (hro : F.round = none) (hn : 6 ≤ n) (a0 : Option Addr) (n0 c0 : Nat) (a1 : Option Addr) (n1 c1 : Nat) (b : Bool) (a2 : Option Addr) (n2 c2 : Nat) (S : List ByteArray) (C : List PP) (j : Nat) (x : Int) (hxj : x = (j : Int)) (w : World)
    (r0 : RdV w a0 n0 (S.map Value.string)) (r1 : RdP w a1 n1 C) (hj : j < n0) (hn0 : n0 ≤ 1048576) (hn1 : n1 ≤ 1048576) :
    CallsIn F n Tryd.prog 93 #[.agg #[.slice a0 n0 c0, .slice a1 n1 c1, .bool b, .slice a2 n2 c2], .int .i64 x] w fun e W' => e = .returned (.string (rdS S C j)) ∧ Below w.heap.size w W' := by
  have h1 : 1 ≤ n := by omega
  have l0 : S.length = n0 := by simpa using r0.1
  have l1 := r1.1
  have HXJ : Hid (x = (j : Int)) := hxj
  clear hxj
  refine callsIn_of_wp_marks Tryd.func93 rfl h49 ?_ hro
  simp only [Tryd.ntmps93, List.size_toArray, List.length_cons, List.length_nil, Nat.reduceAdd, Nat.reduceSub, Array.replicate_succ, Array.replicate_zero, List.push_toArray, List.append_toArray, List.nil_append, List.cons_append]
  gi_wp2_with (gi_at_call 134; refine (bk_in F (n - 1) h78 hro _ _ _ _).mono ?_; rintro e w' ⟨rfl, rfl⟩)
  have bD : Box ((((w.alloc (.cells #[.slice a0 n0 c0, .slice a1 n1 c1, .bool b, .slice a2 n2 c2] 26)).alloc (.cells #[.int .i64 x] 3)).alloc (.cells #[.string ⟨#[]⟩] 9)).alloc (.cells #[.slice a1 n1 c1] 23)) w.heap.size 26 #[.slice a0 n0 c0, .slice a1 n1 c1, .bool b, .slice a2 n2 c2] := (((Box.new w #[.slice a0 n0 c0, .slice a1 n1 c1, .bool b, .slice a2 n2 c2] 26).alloc _).alloc _).alloc _
  have bA := ((Boxed.new (w.alloc (.cells #[.slice a0 n0 c0, .slice a1 n1 c1, .bool b, .slice a2 n2 c2] 26)) 3 (.int .i64 x)).alloc (.cells #[.string ⟨#[]⟩] 9)).alloc (.cells #[.slice a1 n1 c1] 23)
  have bR := (Boxed.new ((w.alloc (.cells #[.slice a0 n0 c0, .slice a1 n1 c1, .bool b, .slice a2 n2 c2] 26)).alloc (.cells #[.int .i64 x] 3)) 9 (.string ⟨#[]⟩)).alloc (.cells #[.slice a1 n1 c1] 23)
  have bS := Boxed.new (((w.alloc (.cells #[.slice a0 n0 c0, .slice a1 n1 c1, .bool b, .slice a2 n2 c2] 26)).alloc (.cells #[.int .i64 x] 3)).alloc (.cells #[.string ⟨#[]⟩] 9)) 23 (.slice a1 n1 c1)
  simp only [World.size_alloc] at bA bR bS
  have hB0 : Below w.heap.size w ((((w.alloc (.cells #[.slice a0 n0 c0, .slice a1 n1 c1, .bool b, .slice a2 n2 c2] 26)).alloc (.cells #[.int .i64 x] 3)).alloc (.cells #[.string ⟨#[]⟩] 9)).alloc (.cells #[.slice a1 n1 c1] 23)) := ((((Below.refl _ w).alloc (Nat.le_refl _) _).alloc (by simp) _).alloc (by simp; omega) _).alloc (by simp; omega) _
  have hsz : ((((w.alloc (.cells #[.slice a0 n0 c0, .slice a1 n1 c1, .bool b, .slice a2 n2 c2] 26)).alloc (.cells #[.int .i64 x] 3)).alloc (.cells #[.string ⟨#[]⟩] 9)).alloc (.cells #[.slice a1 n1 c1] 23)).heap.size = w.heap.size + 4 := by simp
  obtain ⟨W0, hW0⟩ : ∃ W0, (((w.alloc (.cells #[.slice a0 n0 c0, .slice a1 n1 c1, .bool b, .slice a2 n2 c2] 26)).alloc (.cells #[.int .i64 x] 3)).alloc (.cells #[.string ⟨#[]⟩] 9)).alloc (.cells #[.slice a1 n1 c1] 23) = W0 := ⟨_, rfl⟩
  rw [hW0] at bD bA bR bS hB0 hsz ⊢
  clear hW0
  refine wpIn_rangeFunc_ownH hro h1 (gf := 153) (lb := #[.pointer (some ⟨w.heap.size + 1 + 1 + 1, 0, none⟩)]) rfl h84 (enters_of Tryd.func153 (by kernel_rfl) rfl)
    (bk_stops F (n - 1) h84 hro (by omega) (w.heap.size + 1 + 1 + 1) W0.heap.size a1 n1 c1 C hn1 W0 (by omega) (Nat.le_refl _) bS.cell (r1.below hB0) (fun b' off' hp e => by obtain ⟨b2, off2, e2, hlt, _⟩ := r1.2 hp; rw [e] at e2; cases e2; omega)) belowK_t (belowK_b (Nat.le_refl _)) (Below.refl _ _) (fun _ => rfl)
    (fun pre W => (((fdB pre x = none ∧ Boxed W (w.heap.size + 1 + 1) 9 (.string ⟨#[]⟩)) ∧ Boxed W (w.heap.size + 1) 3 (.int .i64 x)) ∧ Box W w.heap.size 26 #[.slice a0 n0 c0, .slice a1 n1 c1, .bool b, .slice a2 n2 c2]) ∧ Below W0.heap.size W0 W)
    (fun c pre W => ((c = .ret ∧ (fdB pre x).isSome = true) ∧ Boxed W (w.heap.size + 1 + 1) 9 (.string (vlB pre x))) ∧ Below w.heap.size w W)
    (OwnFrom.and (OwnFrom.and (OwnFrom.and (OwnFrom.and (ownFrom_pure _ _) (Own.from (boxed_own _ _ _) _)) (Own.from (boxed_own _ _ _) _)) (Own.from (block_own _ _ _) _)) (ownFrom_below (Nat.le_refl _) (Nat.le_refl _)))
    (fun c => OwnFrom.and (OwnFrom.and (ownFrom_pure _ _) (Own.from (boxed_own _ _ _) _)) (ownFrom_below (Nat.le_refl _) (by omega)))
    ⟨⟨⟨⟨rfl, bR⟩, bA⟩, bD⟩, Below.refl _ _⟩
    (fun y a' W => ∃ Bx, w.heap.size + 4 ≤ Bx ∧ Box W Bx 156 #[.int .i64 y.2.1, .string y.2.2] ∧ a' = { tmps := #[.agg #[.slice a0 n0 c0, .slice a1 n1 c1, .bool b, .slice a2 n2 c2], .int .i64 x, .pointer (some ⟨w.heap.size, 0, none⟩), .pointer (some ⟨w.heap.size + 1, 0, none⟩), .pointer (some ⟨w.heap.size + 1 + 1, 0, none⟩), undef, .pointer (some ⟨Bx, 0, none⟩), .pointer (some ⟨w.heap.size, 1, none⟩), .slice a1 n1 c1, .func (.func 153) #[] #[.pointer (some ⟨w.heap.size + 1 + 1 + 1, 0, none⟩)], .int .i64 (y.1 : Int), .agg #[.int .i64 y.2.1, .string y.2.2], undef, undef, undef, undef, undef, undef, undef, undef, undef, undef, undef], defers := [] })
    (fun y a' _ X Y row hs hg hr => by obtain ⟨Bx, e1, e2, e3⟩ := hs; exact ⟨Bx, e1, block_own (β := Unit) Bx 156 _ () X Y row e2 hg (fun r e => (hr r e).2), e3⟩)
    ?assign ?body ?done ?stop
  case assign =>
    rintro l pre y W K ⟨⟨⟨⟨hp, bR1⟩, bA1⟩, bD1⟩, hB1⟩ hK
    dsimp only [encB]
    gi_wp2
    exact hK _ _ ((KeepsOthers.alloc _ _).from _) ((Below.refl _ W).alloc hB1.size _) ⟨⟨⟨⟨hp, bR1.alloc _⟩, bA1.alloc _⟩, bD1.alloc _⟩, hB1.alloc hB1.size _⟩ ⟨W.heap.size, by have := hB1.size; omega, Box.new W _ 156, rfl⟩
  case body =>
    rintro l pre y a' W hl ⟨r, hr⟩ ⟨⟨⟨⟨hp, bR1⟩, bA1⟩, bD1⟩, hB1⟩ ⟨Bx, hBx, bX, rfl⟩ hlt
    have cX0 : W.cell? ⟨Bx, 0, none⟩ = some (.int .i64 y.2.1) := bX.cell 0
    have cX1 : W.cell? ⟨Bx, 1, none⟩ = some (.string y.2.2) := bX.cell 1
    have cA := bA1.cell
    have cR := bR1.cell
    have fR := bR1.frozen
    by_cases he : y.2.1 = x
    · have hbe : (y.2.1 == x) = true := by simpa using he
      have hfy := fdB_yes hp he
      have hvy : vlB (pre ++ [y]) x = y.2.2 := by unfold vlB; rw [hfy]; rfl
      clear he
      gi_wp2
      exact ⟨(KeepsOthers.setCell _ _ _).from _, ⟨⟨rfl, by rw [hfy]; rfl⟩, by rw [hvy]; exact bR1.set _⟩, (hB0.trans (hB1.mono (by omega))).setCell (p := ⟨w.heap.size + 1 + 1, 0, none⟩) (by simp; omega) _⟩
    · have hbe : (y.2.1 == x) = false := by simpa using he
      have hfy := fdB_no hp he
      clear he
      gi_wp2
      exact ⟨KeepsFrom.refl _ _, Below.refl _ _, ⟨⟨⟨hfy, bR1⟩, bA1⟩, bD1⟩, hB1⟩
  case done =>
    rintro D zs W hD rfl ⟨⟨⟨⟨hp, bR1⟩, bA1⟩, bD1⟩, hB1⟩ hK
    have cR := bR1.cell
    have fR := bR1.frozen
    have cA := bA1.cell
    have cD : W.cell? ⟨w.heap.size, 0, none⟩ = some (.slice a0 n0 c0) := bD1.cell 0
    have hBw : Below w.heap.size w W := hB0.trans (hB1.mono (by omega))
    obtain ⟨b0, off0, rfl, hbl, hc⟩ := r0.2 (by omega)
    obtain ⟨s, hs⟩ : ∃ s, s = S.getD j ⟨#[]⟩ := ⟨_, rfl⟩
    have cS : W.cell? ⟨b0, off0 + j, none⟩ = some (.string s) := by rw [hBw.cell (p := ⟨b0, off0 + j, none⟩) hbl, hc j hj, hs]; exact map_get _ _ _ _ (by omega)
    have hres : rdS S C j = s := by rw [hs]; exact rdS_miss (by rw [l1, ← HXJ.out]; exact hp)
    have g1 : (0 : Int) ≤ (j : Int) := by omega
    have g2 : (j : Int) < (n0 : Int) := by omega
    have hxj := HXJ.out
    subst hxj
    clear hc hs
    gi_wp2
    have hK' := (KeepsOthers.setCell W ⟨w.heap.size + 1 + 1, 0, none⟩ (.string s)).same D _ hK rfl
    refine ⟨by simp, .inl ⟨_, _, rfl, run_takeDeferred hK', ?_⟩⟩
    have hc5 := cell_kept (bR1.set (.string s)).cell (grownBy_putObj' _ D (.deferred none)) (fun r e => by cases e; exact ⟨_, hK', rfl⟩)
    refine ⟨.string s, ?_, by first | rfl | rw [hres], (hBw.setCell (p := ⟨w.heap.size + 1 + 1, 0, none⟩) (by simp; omega) _).trans (belowK_b (w := w) (Nat.le_refl _) _ D _ _ (by omega) hK' rfl rfl)⟩
    simp [results, Tryd.f93, go_sem, hc5]
  case stop =>
    rintro D c pre W hD ⟨k, hk, rfl⟩ ⟨⟨⟨rfl, hf⟩, bR1⟩, hB1⟩ hK
    obtain ⟨y, hy⟩ := Option.isSome_iff_exists.1 hf
    have hres : rdS S C j = vlB (bkL C n1 k) x := by
      have h' : vlB (bkL C n1 k) x = y.2.2 := by unfold vlB; rw [hy]; rfl
      rw [h']
      exact rdS_hit (k := k) (by omega) (by rw [l1, ← HXJ.out]; exact hy)
    gi_wp2
    refine ⟨by simp, .inl ⟨_, _, rfl, run_takeDeferred hK, ?_⟩⟩
    have hc5 := cell_kept bR1.cell (grownBy_putObj' _ D (.deferred none)) (fun r e => by cases e; exact ⟨_, hK, rfl⟩)
    refine ⟨.string (vlB (bkL C n1 k) x), ?_, by first | rfl | rw [hres], hB1.trans (belowK_b (w := w) (Nat.le_refl _) W D _ _ (by omega) hK rfl rfl)⟩
    simp [results, Tryd.f93, go_sem, hc5]
theorem c_readSector (a0 : Option Addr) (n0 c0 : Nat) (a1 : Option Addr) (n1 c1 : Nat) (b : Bool) (a2 : Option Addr) (n2 c2 : Nat) (S : List ByteArray) (C : List PP) (j : Nat) (w : World)
    (r0 : RdV w a0 n0 (S.map Value.string)) (r1 : RdP w a1 n1 C) (hj : j < n0) (hn0 : n0 ≤ 1048576) (hn1 : n1 ≤ 1048576) :
    Calls Tryd.prog 93 #[.agg #[.slice a0 n0 c0, .slice a1 n1 c1, .bool b, .slice a2 n2 c2], .int .i64 (j : Int)] w fun e W' => e = .returned (.string (rdS S C j)) ∧ Below w.heap.size w W' :=
  (callsIn_wide (n := 6)).1 (rs_in Fence.wide 6 trivial trivial trivial rfl (by omega) a0 n0 c0 a1 n1 c1 b a2 n2 c2 S C j (j : Int) rfl w r0 r1 hj hn0 hn1)

end Go.Proofs.YtpomedfofnceeaaDoor
namespace Go.Proofs.YtpomedfofnceeaaDoor
open Go Go.RowKit
attribute [local go_sem ↓] Go.wp_at_zero Go.wp_at_succ


theorem c_in3 (n lo hi : Int) (w : World) : Calls Tryd.prog 72 #[.int .i64 n, .int .i64 lo, .int .i64 hi] w fun e w' => e = .returned (.bool (inB n lo hi)) ∧ w = w' := (c_in n lo hi w).mono fun _ _ h => ⟨h.1, h.2.symm⟩
theorem bkL_at {C : List PP} {n p : Nat} {xa : Int} {xt : ByteArray} (hp : p < n) (hx : (xa, xt) = C.getD p dP) : bkL C n (n - 1 - p + 1) = bkL C n (n - 1 - p) ++ [(p, xa, xt)] := by
  rw [bkL_succ]
  congr 2
  unfold bkF
  rw [show n - 1 - (n - 1 - p) = p by omega, ← hx]
set_option maxRecDepth 100000 in
set_option maxHeartbeats 2000000 in
theorem c_l02Read (a0 : Option Addr) (n0 c0 : Nat) (a1 : Option Addr) (n1 c1 : Nat) (b : Bool) (a2 : Option Addr) (n2 c2 : Nat) (S : List ByteArray) (C : List PP) (j : Nat) (w : World)
    (r0 : RdV w a0 n0 (S.map Value.string)) (r1 : RdP w a1 n1 C) (hj : j < n0) (hn0 : n0 ≤ 1048576) (hn1 : n1 ≤ 1048576) :
    Calls Tryd.prog 127 #[.agg #[.slice a0 n0 c0, .slice a1 n1 c1, .bool b, .slice a2 n2 c2], .int .i64 (j : Int)] w fun e W' => e = .returned (.string (rdS S C j)) ∧ Below w.heap.size w W' := by
  have l0 : S.length = n0 := by simpa using r0.1
  have l1 := r1.1
  have R0 : Hid (RdV w a0 n0 (S.map Value.string)) := r0
  have R1 : Hid (RdP w a1 n1 C) := r1
  obtain ⟨V, hV⟩ : ∃ V, w.alloc (.cells #[.slice a0 n0 c0, .slice a1 n1 c1, .bool b, .slice a2 n2 c2] 26) = V := ⟨_, rfl⟩
  have HB : Hid (Below w.heap.size w V) := by unfold Hid; rw [← hV]; exact (Below.refl _ _).alloc (Nat.le_refl _) _
  have bx : Box V w.heap.size 26 #[.slice a0 n0 c0, .slice a1 n1 c1, .bool b, .slice a2 n2 c2] := by rw [← hV]; exact Box.new _ _ _
  obtain ⟨v0, v1, v2, v3⟩ := box4 bx
  clear r0 r1 bx
  go_enter Tryd.func127, Tryd.ntmps127
  go_wp2
  go_loop [5] (fun i => (∃ p : Nat, i = .int .i64 p ∧ p < n1 ∧ Hid (fdB (bkL C n1 (n1 - 1 - p)) j = none)) ∨ (i = .int .i64 (-1) ∧ Hid (fdB (bkL C n1 n1) j = none))) (fun i => (intOf i + 1).toNat)
  case atStart =>
    rcases Nat.eq_zero_or_pos n1 with h | h
    · subst h
      exact .inr ⟨rfl, rfl⟩
    · refine .inl ⟨n1 - 1, by go_num, by omega, ?_⟩
      rw [show n1 - 1 - (n1 - 1) = 0 by omega]
      exact rfl
  case round =>
    rcases hrel with ⟨p, rfl, hp, HN⟩ | ⟨rfl, HN⟩
    · obtain ⟨bb, off, ha, hbl, hc⟩ := R1.out.2 (by omega)
      obtain ⟨⟨xa, xt⟩, hx⟩ : ∃ x, x = C.getD p dP := ⟨_, rfl⟩
      obtain ⟨d0, d1⟩ := hc p hp
      rw [← hx] at d0 d1
      have e0 : V.cell? ⟨bb, off + p * 2, none⟩ = some (.int .i64 xa) := (HB.out.cell (p := ⟨bb, off + p * 2, none⟩) hbl).trans d0
      have e1 : V.cell? ⟨bb, off + p * 2 + 1, none⟩ = some (.string xt) := (HB.out.cell (p := ⟨bb, off + p * 2 + 1, none⟩) hbl).trans d1
      rw [ha] at v1
      have HA : Hid (bkL C n1 (n1 - 1 - p + 1) = bkL C n1 (n1 - 1 - p) ++ [(p, xa, xt)]) := bkL_at hp hx
      clear hc hx d0 d1 ha
      by_cases he : xa = (j : Int)
      · have hbe : (xa == (j : Int)) = true := by simpa using he
        have E : Hid (rdS S C j = xt) := by
          have h2 : fdB (bkL C n1 (n1 - 1 - p + 1)) j = some (p, xa, xt) := by rw [HA.out]; exact fdB_yes HN.out he
          exact rdS_hit (S := S) (C := C) (k := n1 - 1 - p + 1) (show n1 - 1 - p + 1 ≤ C.length by omega) (by rw [l1]; exact h2)
        clear he
        go_wp2
        go_ret
        exact ⟨ret_str E.out.symm, HB.out⟩
      · have hbe : (xa == (j : Int)) = false := by simpa using he
        have HN2 : Hid (fdB (bkL C n1 (n1 - 1 - p + 1)) j = none) := by unfold Hid; rw [HA.out]; exact fdB_no HN.out he
        clear he
        go_wp2
        go_round
        case rel =>
          rcases Nat.eq_zero_or_pos p with h | h
          · subst h
            refine .inr ⟨by go_num, ?_⟩
            have h2 := HN2.out
            rw [show n1 - 1 - 0 + 1 = n1 by omega] at h2
            exact h2
          · refine .inl ⟨p - 1, by go_num, by omega, ?_⟩
            rw [show n1 - 1 - (p - 1) = n1 - 1 - p + 1 by omega]
            exact HN2.out
        case measure => simp [intOf]
    · obtain ⟨b0, off0, ha, hbl, hc⟩ := R0.out.2 (by omega)
      obtain ⟨s, hs⟩ : ∃ s, s = S.getD j ⟨#[]⟩ := ⟨_, rfl⟩
      have cS : V.cell? ⟨b0, off0 + j, none⟩ = some (.string s) := by rw [HB.out.cell (p := ⟨b0, off0 + j, none⟩) hbl, hc j hj, hs]; exact map_get _ _ _ _ (by omega)
      have E : Hid (rdS S C j = s) := by unfold Hid; rw [hs]; exact rdS_miss (by rw [l1]; exact HN.out)
      rw [ha] at v0
      clear hc hs ha
      go_wp2
      go_ret
      exact ⟨ret_str E.out.symm, HB.out⟩
def readT (D : DD) (x : Int) : ByteArray := if okD D = true then (if 0 ≤ x ∧ x < D.S.length then rdS D.S D.C x.toNat else ⟨#[]⟩) else ⟨#[]⟩
def readC (D : DD) (x : Int) : Int := if okD D = true then (if 0 ≤ x ∧ x < D.S.length then 0 else 4) else 1

end Go.Proofs.YtpomedfofnceeaaDoor
namespace Go.Proofs.YtpomedfofnceeaaDoor
open Go Go.RowKit
attribute [local go_sem ↓] Go.wp_at_zero Go.wp_at_succ

/-- The record that a sector's text is, if it is one. -/
def rcO (s : ByteArray) : Option DR := if unsB (numsT s) then rrD (headZ (numsT s)) else none
theorem rc_some {s : ByteArray} {D : DR} (hs : s.size ≤ 65536) (h : rcO s = some D) : rdC2 (numsT s) = 0 ∧ rdR2 (numsT s) = D := by
  unfold rcO at h
  split at h
  · rename_i hu
    exact rq0 (by rw [nums_len]; omega) hu h
  · cases h
theorem rc_none {s : ByteArray} (hs : s.size ≤ 65536) (h : rcO s = none) : ∃ c, rdC2 (numsT s) = c ∧ rdR2 (numsT s) = zeroR ∧ (c != 0) = true := by
  unfold rcO at h
  have hl : ¬ 65536 < (numsT s).length := by rw [nums_len]; omega
  split at h
  · rename_i hu
    exact ⟨3, (rq3 hl hu h).1, (rq3 hl hu h).2, rfl⟩
  · rename_i hu
    exact ⟨8, (rq8 hl (by simpa using hu)).1, (rq8 hl (by simpa using hu)).2, rfl⟩
theorem rr_ok {x : List Int} {D : DR} (h : rrD x = some D) : okLR D = true := by
  unfold rrD at h
  split at h
  · cases h
  · split at h
    · split at h
      · split at h
        · rename_i hk; cases h; exact hk
        · cases h
      · cases h
    · cases h
theorem rc_ok {s : ByteArray} {D : DR} (h : rcO s = some D) : okLR D = true := by
  unfold rcO at h
  split at h
  · exact rr_ok h
  · cases h
theorem rc_rng {s : ByteArray} {D : DR} (h : rcO s = some D) : (1 ≤ D.e ∧ D.e ≤ 60) ∧ (1 ≤ D.l ∧ D.l ≤ 60) := by
  have := rc_ok h
  unfold okLR inB at this
  simp only [Bool.and_eq_true, decide_eq_true_eq] at this
  exact ⟨⟨by omega, by omega⟩, ⟨by omega, by omega⟩⟩
def lastE (acc : List DR) : Int := (acc.getLast?.map (·.e)).getD 0
theorem lastE_nil : lastE [] = 0 := rfl
theorem lastE_app (acc : List DR) (r : DR) : lastE (acc ++ [r]) = r.e := by unfold lastE; rw [List.getLast?_append]; rfl
theorem lastE_get (acc : List DR) (p : Nat) (h : acc.length = p + 1) : lastE acc = (acc.getD p zeroR).e := by
  unfold lastE
  rw [List.getLast?_eq_getElem?, h, List.getD_eq_getElem?_getD, Nat.add_sub_cancel, List.getElem?_eq_getElem (by omega)]
  rfl
/-- The next record, if there is one. -/
def stepL (T : Nat → ByteArray) (n0 : Nat) (ep : Int) (acc : List DR) : Option DR :=
  if 9 + acc.length < n0 then (match rcO (T (9 + acc.length)) with | some r => if r.l = (acc.length : Int) + 1 ∧ lastE acc ≤ r.e ∧ r.e ≤ ep then some r else none | none => none) else none
def logL (T : Nat → ByteArray) (n0 : Nat) (ep : Int) : Nat → List DR → List DR
  | 0, acc => acc
  | f + 1, acc => match stepL T n0 ep acc with | some r => logL T n0 ep f (acc ++ [r]) | none => acc
theorem st_far {T : Nat → ByteArray} {n0 : Nat} {ep : Int} {acc : List DR} {k : Nat} (hk : acc.length = k) (h : ¬ 9 + k < n0) : stepL T n0 ep acc = none := by subst hk; unfold stepL; rw [if_neg h]
theorem st_none {T : Nat → ByteArray} {n0 : Nat} {ep : Int} {acc : List DR} {k : Nat} (hk : acc.length = k) (h : rcO (T (9 + k)) = none) : stepL T n0 ep acc = none := by subst hk; unfold stepL; rw [h]; split <;> rfl
theorem st_bad {T : Nat → ByteArray} {n0 : Nat} {ep : Int} {acc : List DR} {k : Nat} (hk : acc.length = k) {r : DR} (h : rcO (T (9 + k)) = some r) (hb : ¬ (r.l = (k : Int) + 1 ∧ lastE acc ≤ r.e ∧ r.e ≤ ep)) : stepL T n0 ep acc = none := by
  subst hk; unfold stepL; rw [h]; split
  · exact if_neg hb
  · rfl
theorem st_good {T : Nat → ByteArray} {n0 : Nat} {ep : Int} {acc : List DR} {k : Nat} (hk : acc.length = k) (h9 : 9 + k < n0) {r : DR} (h : rcO (T (9 + k)) = some r) (hb : r.l = (k : Int) + 1 ∧ lastE acc ≤ r.e ∧ r.e ≤ ep) : stepL T n0 ep acc = some r := by
  subst hk; unfold stepL; rw [if_pos h9, h]; exact if_pos hb
theorem log_end {T : Nat → ByteArray} {n0 : Nat} {ep : Int} {acc R : List DR} {k : Nat} (h9 : k ≤ 100) (HL : logL T n0 ep (200 - k) acc = R) (hs : stepL T n0 ep acc = none) : R = acc := by
  rw [show 200 - k = (199 - k) + 1 by omega] at HL
  rw [← HL]
  unfold logL
  rw [hs]
theorem log_more {T : Nat → ByteArray} {n0 : Nat} {ep : Int} {acc R : List DR} {k : Nat} (h9 : k ≤ 100) (HL : logL T n0 ep (200 - k) acc = R) {r : DR} (hs : stepL T n0 ep acc = some r) : logL T n0 ep (200 - (k + 1)) (acc ++ [r]) = R := by
  rw [show 200 - k = (200 - (k + 1)) + 1 by omega] at HL
  rw [← HL]
  conv => rhs; unfold logL
  rw [hs]
def logR (D : DD) (ep : Int) : List DR := if okD D && inB ep 0 60 then logL (rdS D.S D.C) D.S.length ep 200 [] else []
def logC (D : DD) (ep : Int) : Int := if okD D then (if inB ep 0 60 then 0 else 4) else 1
theorem lg_bad {D : DD} {ep : Int} (h : okD D = false) : logR D ep = [] ∧ logC D ep = 1 := by unfold logR logC; rw [h]; exact ⟨rfl, rfl⟩
theorem lg_ep {D : DD} {ep : Int} (h : okD D = true) (h' : inB ep 0 60 = false) : logR D ep = [] ∧ logC D ep = 4 := by unfold logR logC; rw [h, h']; exact ⟨rfl, rfl⟩
theorem lg_yes {D : DD} {ep : Int} (h : okD D = true) (h' : inB ep 0 60 = true) : logL (rdS D.S D.C) D.S.length ep 200 [] = logR D ep ∧ logC D ep = 0 := by unfold logR logC; rw [h, h']; exact ⟨rfl, rfl⟩
theorem ok_parts {D : DD} (h : okD D = true) : (D.S.length ≤ 100 ∧ D.C.length ≤ 500) ∧ (∀ s ∈ D.S, s.size ≤ 160) ∧ ∀ p ∈ D.C, p.2.size ≤ 160 := by
  unfold okD at h
  simp only [Bool.and_eq_true, decide_eq_true_eq, List.all_eq_true] at h
  refine ⟨⟨h.1.2.1, h.1.2.2.1⟩, h.2.1, fun p hp => ?_⟩
  have := h.2.2.1 p hp
  unfold goodC at this
  simp only [Bool.and_eq_true, decide_eq_true_eq] at this
  exact this.2
theorem rdS_size {S : List ByteArray} {C : List PP} {j : Nat} (h0 : ∀ s ∈ S, s.size ≤ 160) (h1 : ∀ p ∈ C, p.2.size ≤ 160) : (rdS S C j).size ≤ 160 := by
  cases hf : fdB (bkL C C.length C.length) j with
  | none =>
    rw [rdS_miss hf, List.getD_eq_getElem?_getD]
    cases hs : S[j]? with
    | none => exact Nat.zero_le _
    | some s => exact h0 s (List.mem_of_getElem? hs)
  | some y =>
    rw [rdS_hit (Nat.le_refl _) hf]
    unfold fdB at hf
    have hm := List.mem_of_find?_eq_some hf
    unfold bkL at hm
    obtain ⟨i, hi, rfl⟩ := List.mem_map.1 hm
    have hi' := List.mem_range.1 hi
    unfold bkF
    dsimp only
    refine h1 _ ?_
    rw [List.getD_eq_getElem?_getD, List.getElem?_eq_getElem (by omega)]
    exact List.getElem_mem _
theorem infoQm : (Tryd.prog.info? 75).map (fun i => (i.zero, i.size, i.bytes)) = some (some (.agg #[.int .i64 0, .int .i64 0, .int .i64 0, .int .i64 0, .int .i64 0, .int .i64 0, .int .i64 0, .int .i64 0, .string ⟨#[]⟩, .string ⟨#[]⟩]), 10, 96) := by kernel_rfl
theorem cQ_one (v : DR) : ∀ u ∈ cQ v, u.oneCell' = true := by
  intro u hu
  unfold cQ at hu
  simp only [List.mem_cons, List.not_mem_nil, or_false] at hu
  rcases hu with rfl | rfl | rfl | rfl | rfl | rfl | rfl | rfl | rfl | rfl <;> rfl
theorem box_newQ {w : World} {g : Nat} {v : DR} {ty : TypeId} (hb : Box w g ty (agR v)) : ∀ j u, (cQ v)[j]? = some u → w.cell? ((⟨g, 0, none⟩ : Addr).add j) = some u := by
  intro j u h
  have e : (⟨g, 0, none⟩ : Addr).add j = ⟨g, j, none⟩ := by unfold Addr.add; split <;> simp_all
  rw [e, hb.cell]
  unfold cQ at h
  unfold agR
  simpa using h

end Go.Proofs.YtpomedfofnceeaaDoor
namespace Go.Proofs.YtpomedfofnceeaaDoor
open Go Go.RowKit
attribute [local go_sem ↓] Go.wp_at_zero Go.wp_at_succ


def hbZ (n : Int) : List Int := [104, n]
def hbR (n : Int) : List Int := if inB n 0 60 then hbZ n ++ sumZ (Crc.crc (hbZ n) : Nat) else []
def hbC (n : Int) : Int := if inB n 0 60 then 0 else 4
theorem hb4 {n : Int} (h : inB n 0 60 = false) : hbC n = 4 ∧ hbR n = [] := by unfold hbC hbR; rw [h]; exact ⟨rfl, rfl⟩
theorem hb0 {n : Int} (h : inB n 0 60 = true) : hbC n = 0 ∧ hbR n = hbZ n ++ sumZ (Crc.crc (hbZ n) : Nat) := by unfold hbC hbR; rw [h]; exact ⟨rfl, rfl⟩
theorem hb_bytes {n : Int} (h : inB n 0 60 = true) : ∀ z ∈ hbZ n, 0 ≤ z ∧ z < 256 := by
  have h1 : 0 ≤ n ∧ n ≤ 60 := by simpa [inB] using h
  intro z hz
  simp [hbZ] at hz
  rcases hz with rfl | rfl <;> omega
theorem hbR_fit (n : Int) : (hbR n).length ≤ 1048576 := by
  cases h : inB n 0 60
  · rw [(hb4 h).2]; simp
  · rw [(hb0 h).2]; simp [hbZ, sumZ]
theorem c_epoch (n : Int) (w : World) : Calls Tryd.prog 91 #[.int .i64 n] w fun e w' => e = .returned (.bool (inB n 0 60)) ∧ w' = w := by
  by_cases h1 : 0 ≤ n <;> by_cases h2 : n ≤ 60
  all_goals
    go_enter Tryd.func91, Tryd.ntmps91
    go_wp2
    go_ret
    exact ⟨ret_bool (by simp [inB, h1, h2]), rfl⟩
set_option maxRecDepth 100000 in
set_option maxHeartbeats 2000000 in
theorem c_implHB (n : Int) (w : World) (ht : TabH w) :
    Calls Tryd.prog 36 #[.int .i64 n] w fun e w' => (∃ ha hc, e = .returned (.tuple #[.slice ha (hbR n).length hc, .int .i64 (hbC n)]) ∧ w'.ownsRow w.heap.size 5 1 (.slice ha (hbR n).length hc) (hbR n).length ((hbR n).map (Value.int .u8))) ∧ Below w.heap.size w w' := by
  cases h1 : inB n 0 60
  · have E : Hid (hbC n = 4 ∧ hbR n = []) := hb4 h1
    clear ht
    go_enter Tryd.func36, Tryd.ntmps36
    go_wp2_with (go_at_call 91; refine (c_epoch _ _).mono ?_; rintro e w' ⟨rfl, hq⟩; have hq' := hq.symm; subst hq'; clear hq; rw [h1])
    go_ret2
    rw [E.out.1, E.out.2]
    exact ⟨⟨none, 0, rfl, World.ownsRow_nil _ _ _ _⟩, Below.refl _ _⟩
  · have E : Hid (hbC n = 0 ∧ hbR n = hbZ n ++ sumZ (Crc.crc (hbZ n) : Nat)) := hb0 h1
    obtain ⟨V, hV⟩ : ∃ V, w.alloc (.cells #[.int .u8 104, .int .u8 n] 5) = V := ⟨_, rfl⟩
    have HB : Hid (Below w.heap.size w V) := by unfold Hid; rw [← hV]; exact (Below.refl _ _).alloc (Nat.le_refl _) _
    have RV : RdV V (some ⟨w.heap.size, 0, none⟩) 2 ((hbZ n).map (Value.int .u8)) := by
      rw [← hV]
      exact RdV.own (World.ownsRow_lit (base := 0) (e := 5) w #[.int .u8 104, .int .u8 n] 2 (Nat.zero_le _) (by unfold maxLen; omega) rfl)
    have SL : Hid (Calls Tryd.prog 101 #[.slice (some ⟨w.heap.size, 0, none⟩) 2 2] V fun e w' => (∃ a' c', e = .returned (.slice a' (hbR n).length c') ∧ w'.ownsRow V.heap.size 5 1 (.slice a' (hbR n).length c') (hbR n).length ((hbR n).map (Value.int .u8))) ∧ Below V.heap.size V w') := by
      have hl : (hbR n).length = 2 + 4 := by rw [E.out.2]; rfl
      rw [hl, E.out.2]
      exact c_seal w.heap.size 0 2 2 (hbZ n) V RV (hb_bytes h1) (by omega) (by omega) (ht.below HB.out) _ rfl
    have hw : IntKind.u8.wrap n = n := by have h2 : 0 ≤ n ∧ n ≤ 60 := (by simpa [inB] using h1); rw [IntKind.wrap_u8']; omega
    clear ht RV
    go_enter Tryd.func36, Tryd.ntmps36
    go_wp2_with (first
      | (go_at_call 91; refine (c_epoch _ _).mono ?_; rintro e w' ⟨rfl, hq⟩; have hq' := hq.symm; subst hq'; clear hq; rw [h1])
      | (go_at_call 101; refine SL.out.mono ?_; rintro e w2 ⟨⟨a2, c2, rfl, o2⟩, hb⟩; have B2 : Hid (Below w.heap.size w w2) := (HB.out.trans (hb.mono HB.out.size)); have O2 : Hid (w2.ownsRow w.heap.size 5 1 (.slice a2 (hbR n).length c2) (hbR n).length ((hbR n).map (Value.int .u8))) := (o2.down HB.out.size); clear hb o2 SL))
    go_ret2
    rw [E.out.1]
    exact ⟨⟨a2, c2, rfl, O2.out⟩, B2.out⟩

end Go.Proofs.YtpomedfofnceeaaDoor
namespace Go.Proofs.YtpomedfofnceeaaDoor
open Go Go.RowKit
attribute [local go_sem ↓] Go.wp_at_zero Go.wp_at_succ

def numZ (c : Int) : List Int := [c / 256, c % 256]
set_option maxRecDepth 100000 in
set_option maxHeartbeats 2000000 in
theorem c_num4 (u : Int) (w : World) (h0 : 0 ≤ u) (h1 : u < 4294967296) :
    Calls Tryd.prog 144 #[.int .i64 u, .int .i64 4] w fun e w' => ∃ g cap, e = .returned (.slice (some ⟨g, 0, none⟩) 4 cap) ∧ w'.ownsRow w.heap.size 5 1 (.slice (some ⟨g, 0, none⟩) 4 cap) 4 ((sumZ u).map (Value.int .u8)) ∧ Below w.heap.size w w' := by
  obtain ⟨i0, hi, hz0, hz1, hz2⟩ := info_parts infoB
  have hown0 : (w.alloc (.cells #[] 5)).ownsRow w.heap.size 5 1 (.slice (some ⟨w.heap.size, 0, none⟩) 0 0) 0 [] := World.ownsRow_lit w #[] 0 (Nat.le_refl _) (Nat.zero_le _) rfl
  go_enter Tryd.func144, Tryd.ntmps144
  go_wp2
  go_loopw [5, 6] (fun v i wr => ∃ j : Nat, j ≤ 4 ∧ i = .int .i64 (3 - (j : Int)) ∧ wr.ownsRow w.heap.size 5 1 v j (((sumZ u).take j).map (Value.int .u8)) ∧ (0 < j → ∃ g cap, v = .slice (some ⟨g, 0, none⟩) j cap) ∧ Below w.heap.size w wr) (fun _ i _ => (intOf i + 1).toNat)
  case atStart => exact ⟨0, by omega, rfl, hown0, fun h => absurd h (by omega), (Below.refl _ _).alloc (Nat.le_refl _) _⟩
  case round =>
    obtain ⟨j, hj, rfl, hown, hform, hb⟩ := hrel
    have hbs : w.heap.size ≤ wr.heap.size := hb.size
    clear hown0
    by_cases hlt : j < 4
    · obtain ⟨z, hz⟩ : ∃ z, (sumZ u).take (j + 1) = (sumZ u).take j ++ [z] ∧ z = (sumZ u).getD j 0 := by
        refine ⟨_, ?_, rfl⟩
        rw [List.take_succ_eq_append_getElem (by simp [sumZ]; omega), List.getD_eq_getElem?_getD, List.getElem?_eq_getElem (by simp [sumZ]; omega)]
        rfl
      have HZ : Hid ((sumZ u).take (j + 1) = (sumZ u).take j ++ [z]) := hz.1
      have hzv := hz.2
      clear hz
      obtain ⟨av, cv, hv⟩ : ∃ a cap, (_ : Value) = .slice a j cap := by
        rcases own_form hown with ⟨h, rfl⟩ | ⟨g, cap, h, _, _⟩
        · exact ⟨none, 0, h⟩
        · exact ⟨_, cap, h⟩
      subst hv
      clear hform
      rcases j with _ | _ | _ | _ | j
      all_goals try omega
      all_goals
        simp only [sumZ, List.getD_cons_zero, List.getD_cons_succ] at hzv
        subst hzv
        go_wp2_with (at_builtin; refine wpList_append_lies _ rfl (.tmp 14) (.tmp 21) 65 rfl w.heap.size 5 i0 (.int .u8 0) 1 1 Tryd.underlying65 hi hz0 hz1 hz2 rfl (by omega) _ _ _ rfl (hown.alloc _) ⟨wr.heap.size, 0, none⟩ 1 1 [_] rfl rfl (cell_one_new wr _ _) (by intro u hu; simp at hu; subst hu; rfl) (by omega) (by unfold maxLen; omega) (by omega) (by simp; omega) (wr.heap.size + 1) (by simp) ?_; intro g cp w1 hown1 hgr1 hat1 hlt1)
      all_goals
        have hb1 : Below w.heap.size w w1 := (hb.alloc hbs _).grown hgr1 (by simp; omega) (fun j hj => (hown.lt j hj).1)
        have hown2 := hown1
        rw [← List.map_singleton (f := Value.int IntKind.u8), ← List.map_append, ← HZ.out] at hown2
        clear hown1 hgr1 hat1 hlt1 hown
        go_roundw
        case rel => first | exact ⟨1, by omega, rfl, hown2, fun _ => ⟨g, cp, rfl⟩, hb1⟩ | exact ⟨2, by omega, rfl, hown2, fun _ => ⟨g, cp, rfl⟩, hb1⟩ | exact ⟨3, by omega, rfl, hown2, fun _ => ⟨g, cp, rfl⟩, hb1⟩ | exact ⟨4, by omega, rfl, hown2, fun _ => ⟨g, cp, rfl⟩, hb1⟩
        case measure => simp [intOf]
    · have e : j = 4 := by omega
      subst e
      obtain ⟨g, cap, rfl⟩ := hform (by omega)
      go_wp2
      go_ret
      exact ⟨g, cap, rfl, hown, hb⟩
set_option maxRecDepth 100000 in
set_option maxHeartbeats 2000000 in
theorem c_num2 (u : Int) (w : World) (h0 : 0 ≤ u) (h1 : u ≤ 1000) :
    Calls Tryd.prog 144 #[.int .i64 u, .int .i64 2] w fun e w' => ∃ g cap, e = .returned (.slice (some ⟨g, 0, none⟩) 2 cap) ∧ w'.ownsRow w.heap.size 5 1 (.slice (some ⟨g, 0, none⟩) 2 cap) 2 ((numZ u).map (Value.int .u8)) ∧ Below w.heap.size w w' := by
  obtain ⟨i0, hi, hz0, hz1, hz2⟩ := info_parts infoB
  have hown0 : (w.alloc (.cells #[] 5)).ownsRow w.heap.size 5 1 (.slice (some ⟨w.heap.size, 0, none⟩) 0 0) 0 [] := World.ownsRow_lit w #[] 0 (Nat.le_refl _) (Nat.zero_le _) rfl
  go_enter Tryd.func144, Tryd.ntmps144
  go_wp2
  go_loopw [5, 6] (fun v i wr => ∃ j : Nat, j ≤ 2 ∧ i = .int .i64 (1 - (j : Int)) ∧ wr.ownsRow w.heap.size 5 1 v j (((numZ u).take j).map (Value.int .u8)) ∧ (0 < j → ∃ g cap, v = .slice (some ⟨g, 0, none⟩) j cap) ∧ Below w.heap.size w wr) (fun _ i _ => (intOf i + 1).toNat)
  case atStart => exact ⟨0, by omega, rfl, hown0, fun h => absurd h (by omega), (Below.refl _ _).alloc (Nat.le_refl _) _⟩
  case round =>
    obtain ⟨j, hj, rfl, hown, hform, hb⟩ := hrel
    have hbs : w.heap.size ≤ wr.heap.size := hb.size
    clear hown0
    by_cases hlt : j < 2
    · obtain ⟨z, hz⟩ : ∃ z, (numZ u).take (j + 1) = (numZ u).take j ++ [z] ∧ z = (numZ u).getD j 0 := by
        refine ⟨_, ?_, rfl⟩
        rw [List.take_succ_eq_append_getElem (by simp [numZ]; omega), List.getD_eq_getElem?_getD, List.getElem?_eq_getElem (by simp [numZ]; omega)]
        rfl
      have HZ : Hid ((numZ u).take (j + 1) = (numZ u).take j ++ [z]) := hz.1
      have hzv := hz.2
      clear hz
      obtain ⟨av, cv, hv⟩ : ∃ a cap, (_ : Value) = .slice a j cap := by
        rcases own_form hown with ⟨h, rfl⟩ | ⟨g, cap, h, _, _⟩
        · exact ⟨none, 0, h⟩
        · exact ⟨_, cap, h⟩
      subst hv
      clear hform
      rcases j with _ | _ | j
      all_goals try omega
      all_goals
        simp only [numZ, List.getD_cons_zero, List.getD_cons_succ] at hzv
        subst hzv
        go_wp2_with (at_builtin; refine wpList_append_lies _ rfl (.tmp 14) (.tmp 21) 65 rfl w.heap.size 5 i0 (.int .u8 0) 1 1 Tryd.underlying65 hi hz0 hz1 hz2 rfl (by omega) _ _ _ rfl (hown.alloc _) ⟨wr.heap.size, 0, none⟩ 1 1 [_] rfl rfl (cell_one_new wr _ _) (by intro u hu; simp at hu; subst hu; rfl) (by omega) (by unfold maxLen; omega) (by omega) (by simp; omega) (wr.heap.size + 1) (by simp) ?_; intro g cp w1 hown1 hgr1 hat1 hlt1)
      all_goals
        have hb1 : Below w.heap.size w w1 := (hb.alloc hbs _).grown hgr1 (by simp; omega) (fun j hj => (hown.lt j hj).1)
        have hown2 := hown1
        rw [← List.map_singleton (f := Value.int IntKind.u8), ← List.map_append, ← HZ.out] at hown2
        clear hown1 hgr1 hat1 hlt1 hown
        go_roundw
        case rel => first | exact ⟨1, by omega, rfl, hown2, fun _ => ⟨g, cp, rfl⟩, hb1⟩ | exact ⟨2, by omega, rfl, hown2, fun _ => ⟨g, cp, rfl⟩, hb1⟩
        case measure => simp [intOf]
    · have e : j = 2 := by omega
      subst e
      obtain ⟨g, cap, rfl⟩ := hform (by omega)
      go_wp2
      go_ret
      exact ⟨g, cap, rfl, hown, hb⟩

end Go.Proofs.YtpomedfofnceeaaDoor
namespace Go.Proofs.YtpomedfofnceeaaDoor
open Go Go.RowKit
attribute [local go_sem ↓] Go.wp_at_zero Go.wp_at_succ


set_option maxRecDepth 100000 in
set_option maxHeartbeats 2000000 in
theorem c_sealed (base g L cv : Nat) (zs : List Int) (w : World) (hown : w.ownsRow base 5 1 (.slice (some ⟨g, 0, none⟩) L cv) L (zs.map (Value.int .u8))) (hbase : base ≤ w.heap.size) (hz : ∀ z ∈ zs, 0 ≤ z ∧ z < 256) (hL : L ≤ 60000) (C : Int) (hC : C = (Crc.crc zs : Nat)) :
    Calls Tryd.prog 121 #[.slice (some ⟨g, 0, none⟩) L cv] w fun e w' => (∃ a' c', e = .returned (.slice a' (L + 4) c') ∧ w'.ownsRow base 5 1 (.slice a' (L + 4) c') (L + 4) ((zs ++ sumZ C).map (Value.int .u8))) ∧ Below base w w' := by
  obtain ⟨i0, g9, g90, g91, g92⟩ := info_parts infoB
  have hi : Hid (Tryd.prog.info? 5 = some i0) := g9
  have hz0 : Hid (i0.zero = some (.int .u8 0)) := g90
  have hz1 : Hid (i0.size = 1) := g91
  have hz2 : Hid (i0.bytes = 1) := g92
  clear g9 g90 g91 g92
  have hl := crc_lt zs hz
  have hC0 : 0 ≤ C := by omega
  have hC1 : C < 4294967296 := by omega
  have HO : Hid (w.ownsRow base 5 1 (.slice (some ⟨g, 0, none⟩) L cv) L (zs.map (Value.int .u8))) := hown
  have CK : Hid (Calls Tryd.prog 140 #[.slice (some ⟨g, 0, none⟩) L cv] w fun e w' => e = .returned (.int .i64 C) ∧ w' = w) := by
    rw [hC]
    exact c14 _ L cv zs w (rd_of_V (RdV.own hown) hz) (by omega)
  clear hown hz hl hC
  go_enter Tryd.func121, Tryd.ntmps121
  go_wp2_with fail
  refine CK.out.mono ?_
  rintro e w1 ⟨rfl, hq⟩
  have hq' := hq.symm
  subst hq'
  clear hq CK
  go_wp2_with fail
  refine (c_num4 C w hC0 hC1).mono ?_
  rintro e w2 ⟨g2, c2, rfl, o2, hb⟩
  have B2 : Hid (Below w.heap.size w w2) := hb
  have O2 : Hid (w2.ownsRow w.heap.size 5 1 (.slice (some ⟨g2, 0, none⟩) 4 c2) 4 ((sumZ C).map (Value.int .u8))) := o2
  have HO2 : Hid (w2.ownsRow base 5 1 (.slice (some ⟨g, 0, none⟩) L cv) L (zs.map (Value.int .u8))) := own_below HO.out hb
  have hg : base ≤ g ∧ g < w.heap.size := HO.out.lt g rfl
  clear hb o2 HO
  have q12 := B2.out.size
  go_wp2_with (
    at_builtin; refine app_any _ rfl (.tmp 3) (.tmp 6) 65 rfl base 5 i0 (.int .u8 0) 1 1 Tryd.underlying65 hi.out hz0.out hz1.out hz2.out rfl (by omega) (.slice (some ⟨g, 0, none⟩) L cv) L (zs.map (Value.int .u8)) rfl HO2.out (some ⟨g2, 0, none⟩) 4 c2 ((sumZ C).map (Value.int .u8)) rfl (fun h => by cases h) rfl (fun ad e => by cases e; exact O2.out.cells rfl) (map_one _ (fun _ => rfl) _) (by unfold maxLen; omega) (by omega) (by omega) ?_
    intro a3 c3 w3 ho hg0 hk0
    have hgg : w2.grownBy w3 (some g) := hg0
    have B3 : Hid (Below base w w3) := (B2.out.mono hbase).grown hgg (by omega) (fun k h => by cases h; exact hg.1)
    have O3 : Hid (w3.ownsRow base 5 1 (.slice a3 (L + 4) c3) (L + 4) ((zs ++ sumZ C).map (Value.int .u8))) := by unfold Hid; rw [List.map_append]; exact ho
    clear ho hg0 hk0 hgg)
  go_ret
  exact ⟨⟨a3, c3, rfl, O3.out⟩, B3.out⟩

end Go.Proofs.YtpomedfofnceeaaDoor
namespace Go.Proofs.YtpomedfofnceeaaDoor
open Go Go.RowKit
attribute [local go_sem ↓] Go.wp_at_zero Go.wp_at_succ


set_option maxRecDepth 100000 in
set_option maxHeartbeats 2000000 in
theorem c_header (n : Int) (w : World) (h1 : inB n 0 60 = true) :
    Calls Tryd.prog 64 #[.int .i64 n] w fun e w' => e = .returned (.string (strOfNums (hbR n))) ∧ Below w.heap.size w w' := by
  have E : Hid (hbC n = 0 ∧ hbR n = hbZ n ++ sumZ (Crc.crc (hbZ n) : Nat)) := hb0 h1
  obtain ⟨V, hV⟩ : ∃ V, w.alloc (.cells #[.int .u8 104, .int .u8 n] 5) = V := ⟨_, rfl⟩
  have HB : Hid (Below w.heap.size w V) := by unfold Hid; rw [← hV]; exact (Below.refl _ _).alloc (Nat.le_refl _) _
  have OV : V.ownsRow w.heap.size 5 1 (.slice (some ⟨w.heap.size, 0, none⟩) 2 2) 2 ((hbZ n).map (Value.int .u8)) := by
    rw [← hV]
    exact World.ownsRow_lit w #[.int .u8 104, .int .u8 n] 2 (Nat.le_refl _) (by unfold maxLen; omega) rfl
  have SL : Hid (Calls Tryd.prog 121 #[.slice (some ⟨w.heap.size, 0, none⟩) 2 2] V fun e w' => (∃ a' c', e = .returned (.slice a' 6 c') ∧ RdV w' a' 6 ((hbR n).map (Value.int .u8))) ∧ Below w.heap.size V w') := by
    rw [E.out.2]
    refine (c_sealed w.heap.size w.heap.size 2 2 (hbZ n) V OV HB.out.size (hb_bytes h1) (by omega) _ rfl).mono ?_
    rintro e w' ⟨⟨a', c', rfl, o⟩, hb⟩
    exact ⟨⟨a', c', rfl, RdV.own o⟩, hb⟩
  have hw : IntKind.u8.wrap n = n := by have h2 : 0 ≤ n ∧ n ≤ 60 := (by simpa [inB] using h1); rw [IntKind.wrap_u8']; omega
  clear OV
  go_enter Tryd.func64, Tryd.ntmps64
  go_wp2_with fail
  refine SL.out.mono ?_
  rintro e w2 ⟨⟨a2, c2, rfl, r2⟩, hb⟩
  have B2 : Hid (Below w.heap.size w w2) := HB.out.trans hb
  have cv := conv8 (cap := c2) r2
  clear hb r2 SL hV
  go_wp2
  go_ret
  exact ⟨rfl, B2.out⟩
theorem conv_rdV {W : World} {zs : List Int} {c : Nat} {fr : Nat × Nat} (hz : ∀ z ∈ zs, 0 ≤ z ∧ z < 256) : RdV (W.alloc (.cells (bytesRow (strOfNums zs) c) 5 fr)) (some ⟨W.heap.size, 0, none⟩) zs.length (zs.map (Value.int .u8)) := by
  refine ⟨by simp, fun h => ⟨W.heap.size, 0, rfl, by simp, fun i hi => ?_⟩⟩
  have hb : (W.alloc (.cells (bytesRow (strOfNums zs) c) 5 fr)).heap[W.heap.size]? = some (.cells (bytesRow (strOfNums zs) c) 5 fr) := by
    show (W.heap.push _)[W.heap.size]? = _
    simp
  have hsz : i < (strOfNums zs).data.size := by have := strOfNums_size zs; rw [ByteArray.size] at this; omega
  rw [Nat.zero_add, cell_of_row _ W.heap.size i _ 5 fr hb, bytesRow_at _ _ _ hsz]
  have hs2 : i < (strOfNums zs).size := by rw [strOfNums_size]; exact hi
  rw [map_get _ _ 0 _ hi]
  exact congrArg (fun z => some (Value.int .u8 z)) (son_get (p := i) hz hs2)

end Go.Proofs.YtpomedfofnceeaaDoor
namespace Go.Proofs.YtpomedfofnceeaaDoor
open Go Go.RowKit
attribute [local go_sem ↓] Go.wp_at_zero Go.wp_at_succ

/-- The page that a sector's text is, if it is one. -/
def pgO (no : Int) (s : ByteArray) : Option G.DG := if s.toList.isEmpty then some G.newG else if unsB (numsT s) then G.rpD no (headZ (numsT s)) else none
theorem pg_new {no : Int} {s : ByteArray} (h : s.toList.isEmpty = true) : pgO no s = some G.newG := by unfold pgO; rw [h]; rfl
theorem pg_at {no : Int} {s : ByteArray} (hs : s.size ≤ 65536) (h : s.toList.isEmpty = false) : (G.rdC no (numsT s) = 0 ↔ (pgO no s).isSome = true) ∧ ∀ P, pgO no s = some P → G.rdR no (numsT s) = P := by
  have hl : ¬ 65536 < (numsT s).length := by rw [nums_len]; omega
  unfold pgO G.rdC G.rdR
  rw [h, if_neg hl, if_neg hl]
  cases hu : unsB (numsT s)
  · simp
  · cases hr : G.rpD no (headZ (numsT s)) with
    | none => simp
    | some P => simp [G.rpP]
set_option maxRecDepth 100000 in
set_option maxHeartbeats 4000000 in
theorem c_readDP (h : HD) (D : DD) (p : Nat) (w : World) (r : RdD w h D) (hok : okD D = true) (hp : 1 + p < h.n0) (ht : TabH w) :
    Calls Tryd.prog 131 #[.agg #[.slice h.a0 h.n0 h.c0, .slice h.a1 h.n1 h.c1, .bool h.b, .slice h.a2 h.n2 h.c2], .int .i64 (p : Int)] w fun e w' => (∃ (h' : G.HG) (c : Int), e = .returned (.tuple #[.agg #[.int .i64 h'.l, .slice h'.a h'.n h'.c], .int .i64 c]) ∧ (c = 0 ↔ (pgO p (rdS D.S D.C (1 + p))).isSome = true) ∧ ∀ P, pgO p (rdS D.S D.C (1 + p)) = some P → h'.l = P.L) ∧ Below w.heap.size w w' := by
  have hn0 : h.n0 ≤ 100 := by have := (ok_parts hok).1.1; have := r.l0; omega
  have hn1 : h.n1 ≤ 500 := by have := (ok_parts hok).1.2; have := r.l1; omega
  obtain ⟨V, hV⟩ : ∃ V, (w.alloc (.cells #[.slice h.a0 h.n0 h.c0, .slice h.a1 h.n1 h.c1, .bool h.b, .slice h.a2 h.n2 h.c2] 26)).alloc (.cells #[.int .i64 0, .slice none 0 0] 87) = V := ⟨_, rfl⟩
  have HB : Hid (Below w.heap.size w V) := by unfold Hid; rw [← hV]; exact ((Below.refl _ _).alloc (Nat.le_refl _) _).alloc (by simp) _
  have X : Hid (Box V w.heap.size 26 #[.slice h.a0 h.n0 h.c0, .slice h.a1 h.n1 h.c1, .bool h.b, .slice h.a2 h.n2 h.c2]) := by unfold Hid; rw [← hV]; exact (Box.new _ _ _).alloc _
  have Y : Hid (Box V (w.heap.size + 1) 87 #[.int .i64 0, .slice none 0 0]) := by
    unfold Hid; rw [← hV]
    have := Box.new (w.alloc (.cells #[.slice h.a0 h.n0 h.c0, .slice h.a1 h.n1 h.c1, .bool h.b, .slice h.a2 h.n2 h.c2] 26)) #[.int .i64 0, .slice none 0 0] 87
    rwa [World.size_alloc] at this
  have HT : Hid (TabH w) := ht
  obtain ⟨s, hs⟩ : ∃ s, s = rdS D.S D.C (1 + p) := ⟨_, rfl⟩
  have hsz : s.size ≤ 160 := by rw [hs]; exact rdS_size (ok_parts hok).2.1 (ok_parts hok).2.2
  have RS := c_readSector h.a0 h.n0 h.c0 h.a1 h.n1 h.c1 h.b h.a2 h.n2 h.c2 D.S D.C (1 + p) V (r.2.1.below HB.out) (r.2.2.1.below HB.out) hp (by omega) (by omega)
  rw [← hs] at RS ⊢
  have RSx : Hid (∀ x : Int, x = 1 + (p : Int) → Calls Tryd.prog 93 #[.agg #[.slice h.a0 h.n0 h.c0, .slice h.a1 h.n1 h.c1, .bool h.b, .slice h.a2 h.n2 h.c2], .int .i64 x] V fun e W' => e = .returned (.string s) ∧ Below V.heap.size V W') := fun x hx => by
    rw [hx, show (1 + (p : Int)) = ((1 + p : Nat) : Int) by omega]; exact RS
  clear RS hs r ht hok
  obtain ⟨x0, x1, x2, x3⟩ := box4 X.out
  go_enter Tryd.func131, Tryd.ntmps131
  go_wp2_with fail
  refine (RSx.out _ (by omega)).mono ?_
  rintro e w1 ⟨rfl, hb1⟩
  have B1 : Hid (Below w.heap.size w w1) := HB.out.trans (hb1.mono HB.out.size)
  have Y1 : Hid (Box w1 (w.heap.size + 1) 87 #[.int .i64 0, .slice none 0 0]) := Y.out.belowS hb1
  clear hb1 HB X Y hV RSx x0 x1 x2 x3
  cases he : s.toList.isEmpty
  · have hcv : ∀ W : World, (convert 9 65 (.string s)).run Tryd.prog W = .ok (.slice (some ⟨W.heap.size, 0, none⟩) s.size (grownCap W s.size 0 5)) (W.drew.alloc (.cells (bytesRow s (grownCap W s.size 0 5)) 5 ((bytesRow s (grownCap W s.size 0 5)).size, (bytesRow s (grownCap W s.size 0 5)).size + 1))) := fun W => run_bytes_of_string (P := Tryd.prog) W 9 65 5 s Tryd.underlying9 Tryd.underlying65 Tryd.underlying5
    have CR : Hid (∀ (c : Nat) (fr : Nat × Nat), s.size ≤ c → Calls Tryd.prog 55 #[.int .i64 (p : Int), .slice (some ⟨w1.heap.size, 0, none⟩) s.size c] (w1.drew.alloc (.cells (bytesRow s c) 5 fr)) fun e w' => (∃ h' : G.HG, e = .returned (.tuple #[.agg #[.int .i64 h'.l, .slice h'.a h'.n h'.c], .int .i64 (G.rdC p (numsT s))]) ∧ G.OwnG w' (w1.drew.alloc (.cells (bytesRow s c) 5 fr)).heap.size w'.heap.size h' (G.rdR p (numsT s))) ∧ Below (w1.drew.alloc (.cells (bytesRow s c) 5 fr)).heap.size (w1.drew.alloc (.cells (bytesRow s c) 5 fr)) w') := fun c fr hc =>
      G.c_implRP p (some ⟨w1.heap.size, 0, none⟩) s.size c (numsT s) (w1.drew.alloc (.cells (bytesRow s c) 5 fr)) (by
        have := conv_rdV (W := w1.drew) (zs := numsT s) (c := c) (fr := fr) (nums_bytes s)
        rw [nums_get, nums_len] at this
        exact this) (nums_bytes s) (by omega) hc (HT.out.below ((B1.out.drew).alloc (by have := B1.out.size; simpa using this) _))
    have HP : Hid (_ ∧ _) := pg_at (no := p) (s := s) (by omega) he
    have hne : (s.toList == []) = false := by cases hh : s.toList with | nil => rw [hh] at he; cases he | cons _ _ => rfl
    go_wp2_with fail
    refine (CR.out _ _ (grownCap_ge _ _ _ _)).mono ?_
    rintro e w2 ⟨⟨h2, rfl, o2⟩, hb2⟩
    have HL2 : Hid (h2.l = (G.rdR p (numsT s)).L) := o2.1
    have BA : Hid (Below w1.heap.size w1 w2) := ((Below.refl _ _).drew.alloc (Nat.le_refl _) _).trans (hb2.mono (by simp))
    have B2 : Hid (Below w.heap.size w w2) := B1.out.trans (BA.out.mono B1.out.size)
    have Y2 : Hid (Box w2 (w.heap.size + 1) 87 #[.int .i64 0, .slice none 0 0]) := Y1.out.belowS BA.out
    clear hb2 hcv CR o2 BA B1 Y1
    obtain ⟨u0, u1⟩ := G.box2 Y2.out
    have t0 := Y2.out.thaw 0
    have t1 := Y2.out.thaw 1
    go_wp2
    refine G.retG2 Tryd.results131 rfl rfl rfl (G.put2_box Y2.out _ _) ⟨⟨h2, _, rfl, HP.out.1, fun P hP => by rw [HL2.out, HP.out.2 P hP]⟩, G.put2_below B2.out (by omega) _ _⟩
  · have HP : Hid (pgO p s = some G.newG) := pg_new he
    have hse : s.toList = [] := List.isEmpty_iff.1 he
    clear he
    go_wp2_with fail
    refine (G.c_implNew w1).mono ?_
    rintro e w2 ⟨⟨h2, rfl, o2⟩, hb2⟩
    have HL2 : Hid (h2.l = G.newG.L) := o2.1
    have B2 : Hid (Below w.heap.size w w2) := B1.out.trans (hb2.mono B1.out.size)
    have Y2 : Hid (Box w2 (w.heap.size + 1) 87 #[.int .i64 0, .slice none 0 0]) := Y1.out.belowS hb2
    clear hb2 o2 B1 Y1
    obtain ⟨u0, u1⟩ := G.box2 Y2.out
    have t0 := Y2.out.thaw 0
    have t1 := Y2.out.thaw 1
    go_wp2
    refine G.retG2 Tryd.results131 rfl rfl rfl (G.put2_box Y2.out _ _) ⟨⟨h2, 0, rfl, by rw [HP.out]; simp, fun P hP => by rw [HP.out] at hP; cases hP; exact HL2.out⟩, G.put2_below B2.out (by omega) _ _⟩

end Go.Proofs.YtpomedfofnceeaaDoor
namespace Go.Proofs.YtpomedfofnceeaaDoor
open Go Go.RowKit
attribute [local go_sem ↓] Go.wp_at_zero Go.wp_at_succ

def okPg (T : Nat → ByteArray) (sure : Int) (p : Nat) : Bool := match pgO p (T (1 + p)) with | some P => decide (P.L ≤ sure) | none => false
theorem okPg_none {T : Nat → ByteArray} {sure : Int} {p : Nat} (h : pgO p (T (1 + p)) = none) : okPg T sure p = false := by unfold okPg; rw [h]
theorem okPg_some {T : Nat → ByteArray} {sure : Int} {p : Nat} {P : G.DG} (h : pgO p (T (1 + p)) = some P) : okPg T sure p = decide (P.L ≤ sure) := by unfold okPg; rw [h]
def hasPg (T : Nat → ByteArray) (sure : Int) : Bool := (List.range 8).all (okPg T sure)
theorem hasPg_no {T : Nat → ByteArray} {sure : Int} {p : Nat} (hp : p < 8) (h : okPg T sure p = false) : hasPg T sure = false := by
  unfold hasPg; rw [List.all_eq_false]; exact ⟨p, List.mem_range.2 hp, by rw [h]; exact Bool.noConfusion⟩
theorem hasPg_yes {T : Nat → ByteArray} {sure : Int} (h : ∀ p, p < 8 → okPg T sure p = true) : hasPg T sure = true := by
  unfold hasPg; rw [List.all_eq_true]; exact fun p hp => h p (List.mem_range.1 hp)
set_option maxRecDepth 100000 in
set_option maxHeartbeats 4000000 in
theorem c_hasPages (h : HD) (D : DD) (sure : Int) (w : World) (r : RdD w h D) (hok : okD D = true) (hn : 9 ≤ h.n0) (ht : TabH w) :
    Calls Tryd.prog 83 #[.agg #[.slice h.a0 h.n0 h.c0, .slice h.a1 h.n1 h.c1, .bool h.b, .slice h.a2 h.n2 h.c2], .int .i64 sure] w fun e w' => e = .returned (.bool (hasPg (rdS D.S D.C) sure)) ∧ Below w.heap.size w w' := by
  obtain ⟨V, hV⟩ : ∃ V, w.alloc (.cells #[.slice h.a0 h.n0 h.c0, .slice h.a1 h.n1 h.c1, .bool h.b, .slice h.a2 h.n2 h.c2] 26) = V := ⟨_, rfl⟩
  have HB : Hid (Below w.heap.size w V) := by unfold Hid; rw [← hV]; exact (Below.refl _ _).alloc (Nat.le_refl _) _
  have X : Hid (Box V w.heap.size 26 #[.slice h.a0 h.n0 h.c0, .slice h.a1 h.n1 h.c1, .bool h.b, .slice h.a2 h.n2 h.c2]) := by unfold Hid; rw [← hV]; exact Box.new _ _ _
  have R : Hid (RdD w h D) := r
  have OK : Hid (okD D = true) := hok
  have HT : Hid (TabH w) := ht
  clear r hok ht
  go_enter Tryd.func83, Tryd.ntmps83
  go_wp2
  go_loopw [8] (fun i wr => ∃ k : Nat, k ≤ 8 ∧ i = .int .i64 k ∧ Hid (∀ p, p < k → okPg (rdS D.S D.C) sure p = true) ∧ Hid (Box wr w.heap.size 26 #[.slice h.a0 h.n0 h.c0, .slice h.a1 h.n1 h.c1, .bool h.b, .slice h.a2 h.n2 h.c2]) ∧ Hid (Below w.heap.size w wr)) (fun i _ => 8 - (intOf i).toNat)
  case atStart => exact ⟨0, by omega, rfl, (fun p hp => absurd hp (by omega)), X, HB⟩
  case round =>
    clear X HB hV
    obtain ⟨k, hk, rfl, HA, XW, BW⟩ := hrel
    by_cases hlt : k < 8
    · obtain ⟨x0, x1, x2, x3⟩ := box4 XW.out
      have g2 : (k : Int) < 8 := by omega
      go_wp2_with fail
      refine (c_readDP h D k wr (R.out.below BW.out) OK.out (by omega) (HT.out.below BW.out)).mono ?_
      rintro e w2 ⟨⟨h2, c, rfl, hc, hP⟩, hb2⟩
      have B2 : Hid (Below w.heap.size w w2) := BW.out.trans (hb2.mono BW.out.size)
      have X2 : Hid (Box w2 w.heap.size 26 #[.slice h.a0 h.n0 h.c0, .slice h.a1 h.n1 h.c1, .bool h.b, .slice h.a2 h.n2 h.c2]) := XW.out.belowS hb2
      clear hb2 XW BW x0 x1 x2 x3
      obtain ⟨W, hW⟩ : ∃ W, w2.alloc (.cells #[.int .i64 h2.l, .slice h2.a h2.n h2.c] 87) = W := ⟨_, rfl⟩
      have HBW : Hid (Below w.heap.size w W) := by unfold Hid; rw [← hW]; exact B2.out.alloc B2.out.size _
      have XW : Hid (Box W w.heap.size 26 #[.slice h.a0 h.n0 h.c0, .slice h.a1 h.n1 h.c1, .bool h.b, .slice h.a2 h.n2 h.c2]) := by unfold Hid; rw [← hW]; exact X2.out.alloc _
      have NW : Hid (Box W w2.heap.size 87 #[.int .i64 h2.l, .slice h2.a h2.n h2.c]) := by unfold Hid; rw [← hW]; exact Box.new _ _ _
      obtain ⟨y0, y1⟩ := G.box2 NW.out
      cases hpg : pgO k (rdS D.S D.C (1 + k)) with
      | none =>
        have E : Hid (hasPg (rdS D.S D.C) sure = false) := hasPg_no hlt (okPg_none hpg)
        have hc0 : ¬ c = 0 := fun e => by have := hc.1 e; rw [hpg] at this; cases this
        have c1 : (c != 0) = true := by simpa using hc0
        clear hc hP hpg hc0
        go_wp2
        go_ret
        exact ⟨ret_bool E.out.symm, HBW.out⟩
      | some P =>
        have hc0 : c = 0 := hc.2 (by rw [hpg]; rfl)
        have HL : Hid (h2.l = P.L) := hP P hpg
        have HPG : Hid (okPg (rdS D.S D.C) sure k = decide (P.L ≤ sure)) := okPg_some hpg
        clear hc hP hpg
        subst hc0
        by_cases hs : sure < h2.l
        · have E : Hid (hasPg (rdS D.S D.C) sure = false) := hasPg_no hlt (by rw [HPG.out, ← HL.out]; exact decide_eq_false (by omega))
          go_wp2
          go_ret
          exact ⟨ret_bool E.out.symm, HBW.out⟩
        · have HA2 : Hid (∀ p, p < k + 1 → okPg (rdS D.S D.C) sure p = true) := fun p hp => by
            by_cases e : p = k
            · subst e; rw [HPG.out, ← HL.out]; exact decide_eq_true (by omega)
            · exact HA.out p (by omega)
          go_wp2
          go_roundw
          case rel => exact ⟨k + 1, by omega, by go_num, HA2, XW, HBW⟩
          case measure => simp [intOf]; omega
    · have e : k = 8 := by omega
      subst e
      have E : Hid (hasPg (rdS D.S D.C) sure = true) := hasPg_yes HA.out
      go_wp2
      go_ret
      exact ⟨ret_bool E.out.symm, BW.out⟩

end Go.Proofs.YtpomedfofnceeaaDoor
namespace Go.Proofs.YtpomedfofnceeaaDoor
open Go Go.RowKit
attribute [local go_sem ↓] Go.wp_at_zero Go.wp_at_succ

/-- A right store. -/
def okST (D : DD) (n0 : Nat) (ep : Int) (ln : Nat) (L : List DR) (su : Int) (fn : Nat) (F : List FF) (ha : Int) : Bool := okD D && (decide (n0 = 69) && (decide (1 ≤ ep) && (decide (ep ≤ 60) && (decide (ln ≤ 60) && (inPl 0 L && (ofEp ep 0 L && (decide (0 ≤ su) && (decide (su ≤ (ln : Int)) && ((decide (fn ≤ 3) && arF (ln : Int) [] F) && (decide (0 ≤ ha) && (decide (ha < 3) && (hasPg (rdS D.S D.C) su))))))))))))
theorem box9 {w : World} {g : Nat} {t : TypeId} {v0 v1 v2 v3 v4 v5 v6 v7 v8 : Value} (h : Box w g t #[v0, v1, v2, v3, v4, v5, v6, v7, v8]) : w.cell? ⟨g, 0, none⟩ = some v0 ∧ w.cell? ⟨g, 1, none⟩ = some v1 ∧ w.cell? ⟨g, 2, none⟩ = some v2 ∧ w.cell? ⟨g, 3, none⟩ = some v3 ∧ w.cell? ⟨g, 4, none⟩ = some v4 ∧ w.cell? ⟨g, 5, none⟩ = some v5 ∧ w.cell? ⟨g, 6, none⟩ = some v6 ∧ w.cell? ⟨g, 7, none⟩ = some v7 ∧ w.cell? ⟨g, 8, none⟩ = some v8 :=
  ⟨h.cell 0, h.cell 1, h.cell 2, h.cell 3, h.cell 4, h.cell 5, h.cell 6, h.cell 7, h.cell 8⟩
set_option maxRecDepth 100000 in
set_option maxHeartbeats 4000000 in
theorem c_implST (h : HD) (D : DD) (ep : Int) (la : Option Addr) (ln lc : Nat) (L : List DR) (su : Int) (fa : Option Addr) (fn fc : Nat) (F : List FF) (ha : Int) (w : World) (r : RdD w h D) (hf : Fit D) (rl : RdQ w la ln L) (hln : ln ≤ 1048576) (hls : ∀ v ∈ L, v.b.size ≤ maxLen ∧ v.a.size ≤ maxLen) (rf : RdF w fa fn F) (hfn : fn ≤ 1048576) (hfs : ∀ i, i < fn → G.FitG (F.getD i zeroF).D) (ht : TabH w) :
    Calls Tryd.prog 25 #[.agg #[.slice h.a0 h.n0 h.c0, .slice h.a1 h.n1 h.c1, .bool h.b, .slice h.a2 h.n2 h.c2, .int .i64 ep, .slice la ln lc, .int .i64 su, .slice fa fn fc, .int .i64 ha]] w fun e w' => e = .returned (.bool (okST D h.n0 ep ln L su fn F ha)) ∧ Below w.heap.size w w' := by
  obtain ⟨V, hV⟩ : ∃ V, w.alloc (.cells #[.slice h.a0 h.n0 h.c0, .slice h.a1 h.n1 h.c1, .bool h.b, .slice h.a2 h.n2 h.c2, .int .i64 ep, .slice la ln lc, .int .i64 su, .slice fa fn fc, .int .i64 ha] 30) = V := ⟨_, rfl⟩
  have B0 : Hid (Below w.heap.size w V) := by unfold Hid; rw [← hV]; exact (Below.refl _ _).alloc (Nat.le_refl _) _
  have X0 : Hid (Box V w.heap.size 30 #[.slice h.a0 h.n0 h.c0, .slice h.a1 h.n1 h.c1, .bool h.b, .slice h.a2 h.n2 h.c2, .int .i64 ep, .slice la ln lc, .int .i64 su, .slice fa fn fc, .int .i64 ha]) := by unfold Hid; rw [← hV]; exact Box.new _ _ _
  have C1 : Hid (∀ W, Below w.heap.size w W → Calls Tryd.prog 79 #[.agg #[.slice h.a0 h.n0 h.c0, .slice h.a1 h.n1 h.c1, .bool h.b, .slice h.a2 h.n2 h.c2]] W fun e w' => e = .returned (.bool (okD D)) ∧ Below W.heap.size W w') := fun W hW => c_implOK h D W (r.below hW) hf
  have C2 : Hid (ln ≤ 60 → ∀ W, Below w.heap.size w W → Calls Tryd.prog 80 #[.slice la ln lc] W fun e w' => e = .returned (.bool (inPl 0 L)) ∧ Below W.heap.size W w') := fun h60 W hW => c_inPlace la ln lc L W (rl.below hW) (by omega) hls
  have C3 : Hid (ln ≤ 60 → ∀ W, Below w.heap.size w W → Calls Tryd.prog 81 #[.slice la ln lc, .int .i64 ep] W fun e w' => e = .returned (.bool (ofEp ep 0 L)) ∧ Below W.heap.size W w') := fun h60 W hW => c_ofEpochs la ln lc L ep W (rl.below hW) (by omega)
  have C4 : Hid (∀ W, Below w.heap.size w W → Calls Tryd.prog 82 #[.slice fa fn fc, .int .i64 (ln : Int)] W fun e w' => e = .returned (.bool (decide (fn ≤ 3) && arF (ln : Int) [] F)) ∧ Below W.heap.size W w') := fun W hW => c_areFrames fa fn fc F ln W (rf.below hW) hfn hfs
  have C5 : Hid (okD D = true → h.n0 = 69 → ∀ W, Below w.heap.size w W → Calls Tryd.prog 83 #[.agg #[.slice h.a0 h.n0 h.c0, .slice h.a1 h.n1 h.c1, .bool h.b, .slice h.a2 h.n2 h.c2], .int .i64 su] W fun e w' => e = .returned (.bool (hasPg (rdS D.S D.C) su)) ∧ Below W.heap.size W w') := fun hok h69 W hW => c_hasPages h D su W (r.below hW) hok (by omega) (ht.below hW)
  clear r hf rl hls rf hfs ht
  obtain ⟨x0, x1, x2, x3, x4, x5, x6, x7, x8⟩ := box9 X0.out
  go_enter Tryd.func25, Tryd.ntmps25
  go_wp2_with fail
  refine (C1.out V B0.out).mono ?_
  rintro e w1 ⟨rfl, hb⟩
  have B1 : Hid (Below w.heap.size w w1) := B0.out.trans (hb.mono B0.out.size)
  have X1 : Hid (Box w1 w.heap.size 30 #[.slice h.a0 h.n0 h.c0, .slice h.a1 h.n1 h.c1, .bool h.b, .slice h.a2 h.n2 h.c2, .int .i64 ep, .slice la ln lc, .int .i64 su, .slice fa fn fc, .int .i64 ha]) := X0.out.belowS hb
  clear hb X0 B0 x0 x1 x2 x3 x4 x5 x6 x7 x8
  obtain ⟨x0, x1, x2, x3, x4, x5, x6, x7, x8⟩ := box9 X1.out
  clear hV
  cases hok : okD D
  · have E : Hid (okST D h.n0 ep ln L su fn F ha = false) := by unfold Hid okST; rw [hok]; rfl
    clear hok
    go_wp2
    go_ret
    exact ⟨ret_bool E.out.symm, B1.out⟩
  have Khok : Hid (okD D = true) := hok
  clear hok
  by_cases h69 : h.n0 = 69
  case neg =>
    have E : Hid (okST D h.n0 ep ln L su fn F ha = false) := by unfold Hid okST; rw [Khok.out, decide_eq_false h69]; rfl
    have c1 : ((h.n0 : Int) != 69) = true := by simp; omega
    go_wp2
    go_ret
    exact ⟨ret_bool E.out.symm, B1.out⟩
  have Kh69 : Hid (decide (h.n0 = 69) = true) := decide_eq_true h69
  have c1 : ((h.n0 : Int) != 69) = false := by simp; omega
  have H69 : Hid (h.n0 = 69) := h69
  clear h69
  by_cases he1 : 1 ≤ ep
  case neg =>
    have E : Hid (okST D h.n0 ep ln L su fn F ha = false) := by unfold Hid okST; rw [Khok.out, Kh69.out, decide_eq_false he1]; rfl
    go_wp2
    go_ret
    exact ⟨ret_bool E.out.symm, B1.out⟩
  have Khe1 : Hid (decide (1 ≤ ep) = true) := decide_eq_true he1
  by_cases he2 : ep ≤ 60
  case neg =>
    have E : Hid (okST D h.n0 ep ln L su fn F ha = false) := by unfold Hid okST; rw [Khok.out, Kh69.out, Khe1.out, decide_eq_false he2]; rfl
    go_wp2
    go_ret
    exact ⟨ret_bool E.out.symm, B1.out⟩
  have Khe2 : Hid (decide (ep ≤ 60) = true) := decide_eq_true he2
  by_cases hl : ln ≤ 60
  case neg =>
    have E : Hid (okST D h.n0 ep ln L su fn F ha = false) := by unfold Hid okST; rw [Khok.out, Kh69.out, Khe1.out, Khe2.out, decide_eq_false hl]; rfl
    go_wp2
    go_ret
    exact ⟨ret_bool E.out.symm, B1.out⟩
  have Khl : Hid (decide (ln ≤ 60) = true) := decide_eq_true hl
  go_wp2_with fail
  refine (C2.out hl w1 B1.out).mono ?_
  rintro e w2 ⟨rfl, hb⟩
  have B2 : Hid (Below w.heap.size w w2) := B1.out.trans (hb.mono B1.out.size)
  have X2 : Hid (Box w2 w.heap.size 30 #[.slice h.a0 h.n0 h.c0, .slice h.a1 h.n1 h.c1, .bool h.b, .slice h.a2 h.n2 h.c2, .int .i64 ep, .slice la ln lc, .int .i64 su, .slice fa fn fc, .int .i64 ha]) := X1.out.belowS hb
  clear hb X1 B1 x0 x1 x2 x3 x4 x5 x6 x7 x8
  obtain ⟨x0, x1, x2, x3, x4, x5, x6, x7, x8⟩ := box9 X2.out
  cases hin : inPl 0 L
  · have E : Hid (okST D h.n0 ep ln L su fn F ha = false) := by unfold Hid okST; rw [Khok.out, Kh69.out, Khe1.out, Khe2.out, Khl.out, hin]; rfl
    clear hin
    go_wp2
    go_ret
    exact ⟨ret_bool E.out.symm, B2.out⟩
  have Khin : Hid (inPl 0 L = true) := hin
  clear hin
  go_wp2_with fail
  refine (C3.out hl w2 B2.out).mono ?_
  rintro e w3 ⟨rfl, hb⟩
  have B3 : Hid (Below w.heap.size w w3) := B2.out.trans (hb.mono B2.out.size)
  have X3 : Hid (Box w3 w.heap.size 30 #[.slice h.a0 h.n0 h.c0, .slice h.a1 h.n1 h.c1, .bool h.b, .slice h.a2 h.n2 h.c2, .int .i64 ep, .slice la ln lc, .int .i64 su, .slice fa fn fc, .int .i64 ha]) := X2.out.belowS hb
  clear hb X2 B2 x0 x1 x2 x3 x4 x5 x6 x7 x8
  obtain ⟨x0, x1, x2, x3, x4, x5, x6, x7, x8⟩ := box9 X3.out
  cases hof : ofEp ep 0 L
  · have E : Hid (okST D h.n0 ep ln L su fn F ha = false) := by unfold Hid okST; rw [Khok.out, Kh69.out, Khe1.out, Khe2.out, Khl.out, Khin.out, hof]; rfl
    clear hof
    go_wp2
    go_ret
    exact ⟨ret_bool E.out.symm, B3.out⟩
  have Khof : Hid (ofEp ep 0 L = true) := hof
  clear hof
  by_cases hs1 : 0 ≤ su
  case neg =>
    have E : Hid (okST D h.n0 ep ln L su fn F ha = false) := by unfold Hid okST; rw [Khok.out, Kh69.out, Khe1.out, Khe2.out, Khl.out, Khin.out, Khof.out, decide_eq_false hs1]; rfl
    go_wp2
    go_ret
    exact ⟨ret_bool E.out.symm, B3.out⟩
  have Khs1 : Hid (decide (0 ≤ su) = true) := decide_eq_true hs1
  by_cases hs2 : su ≤ (ln : Int)
  case neg =>
    have E : Hid (okST D h.n0 ep ln L su fn F ha = false) := by unfold Hid okST; rw [Khok.out, Kh69.out, Khe1.out, Khe2.out, Khl.out, Khin.out, Khof.out, Khs1.out, decide_eq_false hs2]; rfl
    go_wp2
    go_ret
    exact ⟨ret_bool E.out.symm, B3.out⟩
  have Khs2 : Hid (decide (su ≤ (ln : Int)) = true) := decide_eq_true hs2
  go_wp2_with fail
  refine (C4.out w3 B3.out).mono ?_
  rintro e w4 ⟨rfl, hb⟩
  have B4 : Hid (Below w.heap.size w w4) := B3.out.trans (hb.mono B3.out.size)
  have X4 : Hid (Box w4 w.heap.size 30 #[.slice h.a0 h.n0 h.c0, .slice h.a1 h.n1 h.c1, .bool h.b, .slice h.a2 h.n2 h.c2, .int .i64 ep, .slice la ln lc, .int .i64 su, .slice fa fn fc, .int .i64 ha]) := X3.out.belowS hb
  clear hb X3 B3 x0 x1 x2 x3 x4 x5 x6 x7 x8
  obtain ⟨x0, x1, x2, x3, x4, x5, x6, x7, x8⟩ := box9 X4.out
  cases hfr : (decide (fn ≤ 3) && arF (ln : Int) [] F)
  · have E : Hid (okST D h.n0 ep ln L su fn F ha = false) := by unfold Hid okST; rw [Khok.out, Kh69.out, Khe1.out, Khe2.out, Khl.out, Khin.out, Khof.out, Khs1.out, Khs2.out, hfr]; rfl
    clear hfr
    go_wp2
    go_ret
    exact ⟨ret_bool E.out.symm, B4.out⟩
  have Khfr : Hid ((decide (fn ≤ 3) && arF (ln : Int) [] F) = true) := hfr
  clear hfr
  by_cases ha1 : 0 ≤ ha
  case neg =>
    have E : Hid (okST D h.n0 ep ln L su fn F ha = false) := by unfold Hid okST; rw [Khok.out, Kh69.out, Khe1.out, Khe2.out, Khl.out, Khin.out, Khof.out, Khs1.out, Khs2.out, Khfr.out, decide_eq_false ha1]; rfl
    go_wp2
    go_ret
    exact ⟨ret_bool E.out.symm, B4.out⟩
  have Kha1 : Hid (decide (0 ≤ ha) = true) := decide_eq_true ha1
  by_cases ha2 : ha < 3
  case neg =>
    have E : Hid (okST D h.n0 ep ln L su fn F ha = false) := by unfold Hid okST; rw [Khok.out, Kh69.out, Khe1.out, Khe2.out, Khl.out, Khin.out, Khof.out, Khs1.out, Khs2.out, Khfr.out, Kha1.out, decide_eq_false ha2]; rfl
    go_wp2
    go_ret
    exact ⟨ret_bool E.out.symm, B4.out⟩
  have Kha2 : Hid (decide (ha < 3) = true) := decide_eq_true ha2
  go_wp2_with fail
  refine (C5.out Khok.out H69.out w4 B4.out).mono ?_
  rintro e w5 ⟨rfl, hb⟩
  have B5 : Hid (Below w.heap.size w w5) := B4.out.trans (hb.mono B4.out.size)
  have X5 : Hid (Box w5 w.heap.size 30 #[.slice h.a0 h.n0 h.c0, .slice h.a1 h.n1 h.c1, .bool h.b, .slice h.a2 h.n2 h.c2, .int .i64 ep, .slice la ln lc, .int .i64 su, .slice fa fn fc, .int .i64 ha]) := X4.out.belowS hb
  clear hb X4 B4 x0 x1 x2 x3 x4 x5 x6 x7 x8
  obtain ⟨x0, x1, x2, x3, x4, x5, x6, x7, x8⟩ := box9 X5.out
  have E : Hid (okST D h.n0 ep ln L su fn F ha = hasPg (rdS D.S D.C) su) := by unfold Hid okST; rw [Khok.out, Kh69.out, Khe1.out, Khe2.out, Khl.out, Khin.out, Khof.out, Khs1.out, Khs2.out, Khfr.out, Kha1.out, Kha2.out]; rfl
  go_wp2
  go_ret
  exact ⟨ret_bool E.out.symm, B5.out⟩

end Go.Proofs.YtpomedfofnceeaaDoor
namespace Go.Proofs.YtpomedfofnceeaaDoor
open Go Go.RowKit
attribute [local go_sem ↓] Go.wp_at_zero Go.wp_at_succ

theorem OwnD.from {w : World} {B E B' E' : Nat} {h : HD} {D : DD} (o : OwnD w B E h D) (hb : B' ≤ B) (he : E ≤ E') (hw : E' ≤ w.heap.size) : OwnD w B' E' h D := by
  have q := o.wide hb
  obtain ⟨h1, h2, h3, h4, h5, h6, h7, h8⟩ := q
  obtain ⟨_, _, _, _, _, k6, k7, k8⟩ := o
  exact ⟨h1, h2, h3, h4, hw, fun g e => ⟨(h6 g e).1, by have := (k6 g e).2.1; omega, (h6 g e).2.2⟩, fun g e => ⟨(h7 g e).1, by have := (k7 g e).2.1; omega, (h7 g e).2.2⟩, fun g e => ⟨(h8 g e).1, by have := (k8 g e).2; omega⟩⟩
/-- A store whose arrays are the call's own, made since B and ahead of E: first the disk's, then the log's, then the frames', then their pages'. -/
def OwnS (w : World) (B E : Nat) (h : HD) (D : DD) (la : Option Addr) (ln lc : Nat) (L : List DR) (fa : Option Addr) (fn fc : Nat) (G : List FF) : Prop :=
  ∃ q f p, B ≤ q ∧ q ≤ f ∧ f ≤ p ∧ p ≤ E ∧ E ≤ w.heap.size ∧ OwnD w B q h D ∧ w.ownsRow q 75 10 (.slice la ln lc) ln (cellsQ L) ∧ (∀ g, ob la = some g → q ≤ g ∧ g < f) ∧ w.ownsRow f 109 5 (.slice fa fn fc) fn (cellsF G) ∧ (∀ g, ob fa = some g → f ≤ g ∧ g < p) ∧ OwnF w p E G
theorem OwnF.same {w w' : World} {B E : Nat} {gs : List FF} (o : OwnF w B E gs) (hsz : w.heap.size ≤ w'.heap.size) (hs : ∀ g, B ≤ g → g < E → w'.heap[g]? = w.heap[g]?) : OwnF w' B E gs := fun i hi => (o i hi).same hsz hs
theorem OwnS.same {w w' : World} {B E : Nat} {h : HD} {D : DD} {la : Option Addr} {ln lc : Nat} {L : List DR} {fa : Option Addr} {fn fc : Nat} {G : List FF} (o : OwnS w B E h D la ln lc L fa fn fc G) (hsz : w.heap.size ≤ w'.heap.size) (hs : ∀ g, B ≤ g → g < E → w'.heap[g]? = w.heap[g]?) : OwnS w' B E h D la ln lc L fa fn fc G := by
  obtain ⟨q, f, p, a1, a2, a3, a4, a5, b1, b2, b3, b4, b5, b6⟩ := o
  refine ⟨q, f, p, a1, a2, a3, a4, by omega, b1.same hsz fun g h1 h2 => hs g (by omega) (by omega), own_same b2 fun g e => ?_, b3, own_same b4 fun g e => ?_, b5, b6.same hsz fun g h1 h2 => hs g (by omega) (by omega)⟩
  · rw [ob_slice] at e; have := b3 g e; exact hs g (by omega) (by omega)
  · rw [ob_slice] at e; have := b5 g e; exact hs g (by omega) (by omega)
theorem OwnS.below {w w' : World} {B E : Nat} {h : HD} {D : DD} {la : Option Addr} {ln lc : Nat} {L : List DR} {fa : Option Addr} {fn fc : Nat} {G : List FF} (o : OwnS w B E h D la ln lc L fa fn fc G) (hb : Below w.heap.size w w') : OwnS w' B E h D la ln lc L fa fn fc G :=
  o.same hb.size fun g _ h2 => hb.block g (by obtain ⟨q, f, p, a1, a2, a3, a4, a5, _⟩ := o; omega)
theorem OwnF.rdF {w : World} {B E b : Nat} {a : Option Addr} {n c : Nat} {gs : List FF} (o : OwnF w B E gs) (h : w.ownsRow b 109 5 (.slice a n c) n (cellsF gs)) : RdF w a n gs :=
  RdF.own h (o.rd (by have := h.1; rw [cellsF_len] at this; omega))
theorem OwnS.rd {w : World} {B E : Nat} {h : HD} {D : DD} {la : Option Addr} {ln lc : Nat} {L : List DR} {fa : Option Addr} {fn fc : Nat} {G : List FF} (o : OwnS w B E h D la ln lc L fa fn fc G) : RdD w h D ∧ RdQ w la ln L ∧ RdF w fa fn G := by
  obtain ⟨q, f, p, a1, a2, a3, a4, a5, b1, b2, b3, b4, b5, b6⟩ := o
  exact ⟨b1.rd, RdQ.own b2, b6.rdF b4⟩
/-- What fits within the laws' room. -/
def FitS (D : DD) (ln : Nat) (L : List DR) (fn : Nat) (F : List FF) : Prop := Fit D ∧ (ln ≤ 1048576 ∧ ∀ v ∈ L, v.b.size ≤ 1048576 ∧ v.a.size ≤ 1048576) ∧ fn ≤ 1048576 ∧ ∀ i, i < fn → G.FitG (F.getD i zeroF).D
theorem loadVar9 {w : World} {r : Nat} {v0 v1 v2 v3 v4 v5 v6 v7 v8 : Value} (hb : Box w r 30 #[v0, v1, v2, v3, v4, v5, v6, v7, v8]) : (loadVar 30 ⟨r, 0, none⟩).run Tryd.prog w = .ok (.agg #[v0, v1, v2, v3, v4, v5, v6, v7, v8]) w := by
  obtain ⟨x0, x1, x2, x3, x4, x5, x6, x7, x8⟩ := box9 hb
  simp [go_sem, x0, x1, x2, x3, x4, x5, x6, x7, x8]
theorem ret9 {fn : Func} {p : Tmp} (h : fn.results = #[.cell p 30]) {R : Ending → World → Prop} {a : Act} {w : World} {r : Nat} {v0 v1 v2 v3 v4 v5 v6 v7 v8 : Value} (hp : a.tmps.getD p undef = .pointer (some ⟨r, 0, none⟩)) (hd : a.defers = []) (hb : Box w r 30 #[v0, v1, v2, v3, v4, v5, v6, v7, v8]) (hR : R (.returned (.agg #[v0, v1, v2, v3, v4, v5, v6, v7, v8])) w) : bodyPost Tryd.prog fn R .ret a w := by
  refine bodyPost_ret ?_ hd hR
  have hp' : a.tmps[p]?.getD undef = .pointer (some ⟨r, 0, none⟩) := by simpa using hp
  simp only [results, h]
  simp [hp', asAddr, loadVar9 hb]
theorem put9_box {V : World} {r : Nat} {t : TypeId} {x0 x1 x2 x3 x4 x5 x6 x7 x8 : Value} (h : Box V r t #[x0, x1, x2, x3, x4, x5, x6, x7, x8]) (v0 v1 v2 v3 v4 v5 v6 v7 v8 : Value) : Box (((((((((V.setCell ⟨r, 0, none⟩ (v0)).setCell ⟨r, 1, none⟩ (v1)).setCell ⟨r, 2, none⟩ (v2)).setCell ⟨r, 3, none⟩ (v3)).setCell ⟨r, 4, none⟩ (v4)).setCell ⟨r, 5, none⟩ (v5)).setCell ⟨r, 6, none⟩ (v6)).setCell ⟨r, 7, none⟩ (v7)).setCell ⟨r, 8, none⟩ (v8)) r t #[v0, v1, v2, v3, v4, v5, v6, v7, v8] := by
  have := ((((((((h.set 0 v0).set 1 v1).set 2 v2).set 3 v3).set 4 v4).set 5 v5).set 6 v6).set 7 v7).set 8 v8
  simpa using this
theorem put9_same (V : World) (r g : Nat) (v0 v1 v2 v3 v4 v5 v6 v7 v8 : Value) (hg : g ≠ r) : (((((((((V.setCell ⟨r, 0, none⟩ (v0)).setCell ⟨r, 1, none⟩ (v1)).setCell ⟨r, 2, none⟩ (v2)).setCell ⟨r, 3, none⟩ (v3)).setCell ⟨r, 4, none⟩ (v4)).setCell ⟨r, 5, none⟩ (v5)).setCell ⟨r, 6, none⟩ (v6)).setCell ⟨r, 7, none⟩ (v7)).setCell ⟨r, 8, none⟩ (v8)).heap[g]? = V.heap[g]? := by
  rw [Below.heap_setCell _ _ _ _ hg, Below.heap_setCell _ _ _ _ hg, Below.heap_setCell _ _ _ _ hg, Below.heap_setCell _ _ _ _ hg, Below.heap_setCell _ _ _ _ hg, Below.heap_setCell _ _ _ _ hg, Below.heap_setCell _ _ _ _ hg, Below.heap_setCell _ _ _ _ hg, Below.heap_setCell _ _ _ _ hg]
theorem put9_below {B : Nat} {w V : World} (hb : Below B w V) {r : Nat} (hr : B ≤ r) (v0 v1 v2 v3 v4 v5 v6 v7 v8 : Value) : Below B w (((((((((V.setCell ⟨r, 0, none⟩ (v0)).setCell ⟨r, 1, none⟩ (v1)).setCell ⟨r, 2, none⟩ (v2)).setCell ⟨r, 3, none⟩ (v3)).setCell ⟨r, 4, none⟩ (v4)).setCell ⟨r, 5, none⟩ (v5)).setCell ⟨r, 6, none⟩ (v6)).setCell ⟨r, 7, none⟩ (v7)).setCell ⟨r, 8, none⟩ (v8)) := ((((((((hb.setCell hr _).setCell hr _).setCell hr _).setCell hr _).setCell hr _).setCell hr _).setCell hr _).setCell hr _).setCell hr _
set_option maxRecDepth 100000 in
set_option maxHeartbeats 8000000 in
theorem c_szST (h : HD) (D : DD) (ep : Int) (la : Option Addr) (ln lc : Nat) (L : List DR) (su : Int) (fa : Option Addr) (fn fc : Nat) (F : List FF) (ha : Int) (left : Int) (w : World) (r : RdD w h D) (m0 : h.n0 ≤ maxLen) (m1 : h.n1 ≤ maxLen) (m2 : h.n2 ≤ maxLen) (s0 : ∀ s ∈ D.S, s.size ≤ maxLen) (s1 : ∀ p ∈ D.C, p.2.size ≤ maxLen) (rl : RdQ w la ln L) (hln : ln ≤ maxLen) (hls : ∀ v ∈ L, v.b.size ≤ maxLen ∧ v.a.size ≤ maxLen) (rf : RdF w fa fn F) (hfn : fn ≤ maxLen) (hfs : ∀ i, i < fn → (F.getD i zeroF).h.n ≤ maxLen ∧ ∀ s ∈ (F.getD i zeroF).D.S, s.size ≤ maxLen) (hl0 : 0 ≤ left) (hl1 : left ≤ 1048576) :
    Calls Tryd.prog 22 #[.agg #[.slice h.a0 h.n0 h.c0, .slice h.a1 h.n1 h.c1, .bool h.b, .slice h.a2 h.n2 h.c2, .int .i64 ep, .slice la ln lc, .int .i64 su, .slice fa fn fc, .int .i64 ha], .int .i64 left] w fun e w' => (∃ z : Int, e = .returned (.int .i64 z) ∧ z ≤ left ∧ (0 ≤ z → FitS D ln L fn F)) ∧ Below w.heap.size w w' := by
  obtain ⟨V, hV⟩ : ∃ V, w.alloc (.cells #[.slice h.a0 h.n0 h.c0, .slice h.a1 h.n1 h.c1, .bool h.b, .slice h.a2 h.n2 h.c2, .int .i64 ep, .slice la ln lc, .int .i64 su, .slice fa fn fc, .int .i64 ha] 51) = V := ⟨_, rfl⟩
  have B0 : Hid (Below w.heap.size w V) := by unfold Hid; rw [← hV]; exact (Below.refl _ _).alloc (Nat.le_refl _) _
  have X0 : Hid (Box V w.heap.size 51 #[.slice h.a0 h.n0 h.c0, .slice h.a1 h.n1 h.c1, .bool h.b, .slice h.a2 h.n2 h.c2, .int .i64 ep, .slice la ln lc, .int .i64 su, .slice fa fn fc, .int .i64 ha]) := by unfold Hid; rw [← hV]; exact Box.new _ _ _
  have C1 := c_szDisk2 h D left V (r.below B0.out) m0 m1 m2 s0 s1 hl0 hl1
  have C2 : Hid (∀ (l : Int) W, Below w.heap.size w W → 0 ≤ l → l ≤ 1048576 → Calls Tryd.prog 69 #[.slice la ln lc, .int .i64 l] W fun e w' => (∃ z : Int, e = .returned (.int .i64 z) ∧ z ≤ l ∧ (0 ≤ z → ln ≤ 1048576 ∧ ∀ v ∈ L, v.b.size ≤ 1048576 ∧ v.a.size ≤ 1048576)) ∧ Below W.heap.size W w') := fun l W hW h0 h1 => c_szQ la ln lc L l W (rl.below hW) hln hls h0 h1
  have C3 : Hid (∀ (l : Int) W, Below w.heap.size w W → 0 ≤ l → l ≤ 1048576 → Calls Tryd.prog 70 #[.slice fa fn fc, .int .i64 l] W fun e w' => (∃ z : Int, e = .returned (.int .i64 z) ∧ z ≤ l ∧ (0 ≤ z → fn ≤ 1048576 ∧ ∀ i, i < fn → G.FitG (F.getD i zeroF).D)) ∧ Below W.heap.size W w') := fun l W hW h0 h1 => c_szF fa fn fc F l W (rf.below hW) hfn hfs h0 h1
  clear r m0 m1 m2 s0 s1 rl hln hls rf hfn hfs
  obtain ⟨x0, x1, x2, x3, x4, x5, x6, x7, x8⟩ := box9 X0.out
  go_enter Tryd.func22, Tryd.ntmps22
  go_wp2_with fail
  refine C1.mono ?_
  rintro e w1 ⟨⟨z1, rfl, hz1, hf1⟩, hb⟩
  have B1 : Hid (Below w.heap.size w w1) := B0.out.trans (hb.mono B0.out.size)
  have X1 : Hid (Box w1 w.heap.size 51 #[.slice h.a0 h.n0 h.c0, .slice h.a1 h.n1 h.c1, .bool h.b, .slice h.a2 h.n2 h.c2, .int .i64 ep, .slice la ln lc, .int .i64 su, .slice fa fn fc, .int .i64 ha]) := X0.out.belowS hb
  have F1 : Hid (0 ≤ z1 → Fit D) := hf1
  clear hb hf1 C1 B0 X0 hV x0 x1 x2 x3 x4 x5 x6 x7 x8
  by_cases n1 : z1 < 0
  · go_wp2
    go_ret
    exact ⟨⟨_, rfl, by omega, fun h => absurd h (by omega)⟩, B1.out⟩
  obtain ⟨x0, x1, x2, x3, x4, x5, x6, x7, x8⟩ := box9 X1.out
  go_wp2_with fail
  refine (C2.out z1 w1 B1.out (by omega) (by omega)).mono ?_
  rintro e w2 ⟨⟨z2, rfl, hz2, hf2⟩, hb⟩
  have B2 : Hid (Below w.heap.size w w2) := B1.out.trans (hb.mono B1.out.size)
  have X2 : Hid (Box w2 w.heap.size 51 #[.slice h.a0 h.n0 h.c0, .slice h.a1 h.n1 h.c1, .bool h.b, .slice h.a2 h.n2 h.c2, .int .i64 ep, .slice la ln lc, .int .i64 su, .slice fa fn fc, .int .i64 ha]) := X1.out.belowS hb
  have F2 : Hid (0 ≤ z2 → ln ≤ 1048576 ∧ ∀ v ∈ L, v.b.size ≤ 1048576 ∧ v.a.size ≤ 1048576) := hf2
  clear hb hf2 C2 B1 X1 x0 x1 x2 x3 x4 x5 x6 x7 x8
  by_cases n2 : z2 < 0
  · go_wp2
    go_ret
    exact ⟨⟨_, rfl, by omega, fun h => absurd h (by omega)⟩, B2.out⟩
  obtain ⟨x0, x1, x2, x3, x4, x5, x6, x7, x8⟩ := box9 X2.out
  go_wp2_with fail
  refine (C3.out z2 w2 B2.out (by omega) (by omega)).mono ?_
  rintro e w3 ⟨⟨z3, rfl, hz3, hf3⟩, hb⟩
  have B3 : Hid (Below w.heap.size w w3) := B2.out.trans (hb.mono B2.out.size)
  have F3 : Hid (0 ≤ z3 → fn ≤ 1048576 ∧ ∀ i, i < fn → G.FitG (F.getD i zeroF).D) := hf3
  clear hb hf3 C3 B2 X2 x0 x1 x2 x3 x4 x5 x6 x7 x8
  by_cases n3 : z3 < 0
  · go_wp2
    go_ret
    exact ⟨⟨_, rfl, by omega, fun h => absurd h (by omega)⟩, B3.out⟩
  · go_wp2
    go_ret
    exact ⟨⟨_, rfl, by omega, fun _ => ⟨F1.out (by omega), F2.out (by omega), F3.out (by omega)⟩⟩, B3.out⟩
set_option maxRecDepth 100000 in
set_option maxHeartbeats 8000000 in
theorem c_toST (h : HD) (D : DD) (ep : Int) (la : Option Addr) (ln lc : Nat) (L : List DR) (su : Int) (fa : Option Addr) (fn fc : Nat) (F : List FF) (ha : Int) (w : World) (r : RdD w h D) (rl : RdQ w la ln L) (rf : RdF w fa fn F) (hf : FitS D ln L fn F) :
    Calls Tryd.prog 24 #[.agg #[.slice h.a0 h.n0 h.c0, .slice h.a1 h.n1 h.c1, .bool h.b, .slice h.a2 h.n2 h.c2, .int .i64 ep, .slice la ln lc, .int .i64 su, .slice fa fn fc, .int .i64 ha]] w fun e w' => (∃ (h' : HD) (la' : Option Addr) (lc' : Nat) (fa' : Option Addr) (fc' : Nat) (gs : List FF), e = .returned (.agg #[.slice h'.a0 h'.n0 h'.c0, .slice h'.a1 h'.n1 h'.c1, .bool h'.b, .slice h'.a2 h'.n2 h'.c2, .int .i64 ep, .slice la' ln lc', .int .i64 su, .slice fa' fn fc', .int .i64 ha]) ∧ SameF F gs ∧ OwnS w' w.heap.size w'.heap.size h' D la' ln lc' L fa' fn fc' gs) ∧ Below w.heap.size w w' := by
  obtain ⟨V, hV⟩ : ∃ V, ((w.alloc (.cells #[.slice h.a0 h.n0 h.c0, .slice h.a1 h.n1 h.c1, .bool h.b, .slice h.a2 h.n2 h.c2, .int .i64 ep, .slice la ln lc, .int .i64 su, .slice fa fn fc, .int .i64 ha] 51)).alloc (.cells #[.slice none 0 0, .slice none 0 0, .bool false, .slice none 0 0, .int .i64 0, .slice none 0 0, .int .i64 0, .slice none 0 0, .int .i64 0] 30)).alloc (.cells #[.slice none 0 0, .slice none 0 0, .bool false, .slice none 0 0, .int .i64 0, .slice none 0 0, .int .i64 0, .slice none 0 0, .int .i64 0] 30) = V := ⟨_, rfl⟩
  have T0 : Hid (T3 w V 51 30 #[.slice h.a0 h.n0 h.c0, .slice h.a1 h.n1 h.c1, .bool h.b, .slice h.a2 h.n2 h.c2, .int .i64 ep, .slice la ln lc, .int .i64 su, .slice fa fn fc, .int .i64 ha] #[.slice none 0 0, .slice none 0 0, .bool false, .slice none 0 0, .int .i64 0, .slice none 0 0, .int .i64 0, .slice none 0 0, .int .i64 0] #[.slice none 0 0, .slice none 0 0, .bool false, .slice none 0 0, .int .i64 0, .slice none 0 0, .int .i64 0, .slice none 0 0, .int .i64 0]) := by unfold Hid; rw [← hV]; exact T3.new _ _ _ _ _ _
  have C1 := c_toDisk h D V (r.below T0.out.bel) hf.1
  have C2 : Hid (∀ W, Below w.heap.size w W → Calls Tryd.prog 77 #[.slice la ln lc] W fun e w' => e = .returned (.slice (some ⟨W.heap.size, 0, none⟩) ln ln) ∧ w'.ownsRow W.heap.size 75 10 (.slice (some ⟨W.heap.size, 0, none⟩) ln ln) ln (cellsQ L) ∧ Below W.heap.size W w') := fun W hW => c_toQ la ln lc L W (rl.below hW) hf.2.1.1
  have C3 : Hid (∀ W, Below w.heap.size w W → Calls Tryd.prog 78 #[.slice fa fn fc] W fun e w' => (∃ gs : List FF, e = .returned (.slice (some ⟨W.heap.size, 0, none⟩) fn fn) ∧ SameF F gs ∧ w'.ownsRow W.heap.size 109 5 (.slice (some ⟨W.heap.size, 0, none⟩) fn fn) fn (cellsF gs) ∧ OwnF w' (W.heap.size + 1) w'.heap.size gs) ∧ Below W.heap.size W w') := fun W hW => c_toF fa fn fc F W (rf.below hW) hf.2.2.1 hf.2.2.2
  clear r rl rf hf
  obtain ⟨x0, x1, x2, x3, x4, x5, x6, x7, x8⟩ := box9 T0.out.a
  have s0 := T0.out.sz
  go_enter Tryd.func24, Tryd.ntmps24
  go_wp2_with fail
  refine C1.mono ?_
  rintro e w1 ⟨⟨h', rfl, o1⟩, hb⟩
  have T1 : Hid (T3 w w1 51 30 #[.slice h.a0 h.n0 h.c0, .slice h.a1 h.n1 h.c1, .bool h.b, .slice h.a2 h.n2 h.c2, .int .i64 ep, .slice la ln lc, .int .i64 su, .slice fa fn fc, .int .i64 ha] #[.slice none 0 0, .slice none 0 0, .bool false, .slice none 0 0, .int .i64 0, .slice none 0 0, .int .i64 0, .slice none 0 0, .int .i64 0] #[.slice none 0 0, .slice none 0 0, .bool false, .slice none 0 0, .int .i64 0, .slice none 0 0, .int .i64 0, .slice none 0 0, .int .i64 0]) := T0.out.below hb
  have O1 : Hid (OwnD w1 V.heap.size w1.heap.size h' D) := o1
  have s1 : V.heap.size ≤ w1.heap.size := hb.size
  clear hb o1 C1 T0 hV x0 x1 x2 x3 x4 x5 x6 x7 x8
  obtain ⟨Va0, hVa0⟩ : ∃ W, w1.setCell ⟨w.heap.size + 1 + 1, 0, none⟩ (.slice h'.a0 h'.n0 h'.c0) = W := ⟨_, rfl⟩
  have Ta0 : Hid (T3 w Va0 51 30 #[.slice h.a0 h.n0 h.c0, .slice h.a1 h.n1 h.c1, .bool h.b, .slice h.a2 h.n2 h.c2, .int .i64 ep, .slice la ln lc, .int .i64 su, .slice fa fn fc, .int .i64 ha] #[.slice none 0 0, .slice none 0 0, .bool false, .slice none 0 0, .int .i64 0, .slice none 0 0, .int .i64 0, .slice none 0 0, .int .i64 0] #[.slice h'.a0 h'.n0 h'.c0, .slice none 0 0, .bool false, .slice none 0 0, .int .i64 0, .slice none 0 0, .int .i64 0, .slice none 0 0, .int .i64 0]) := by unfold Hid; rw [← hVa0]; exact T1.out.set 0 _ rfl
  have c0 : w1.cell? ⟨w.heap.size + 1 + 1, 0, none⟩ = some (.slice none 0 0) := T1.out.o.cell 0
  have z0 := T1.out.o.thaw 0
  obtain ⟨Va1, hVa1⟩ : ∃ W, Va0.setCell ⟨w.heap.size + 1 + 1, 1, none⟩ (.slice h'.a1 h'.n1 h'.c1) = W := ⟨_, rfl⟩
  have Ta1 : Hid (T3 w Va1 51 30 #[.slice h.a0 h.n0 h.c0, .slice h.a1 h.n1 h.c1, .bool h.b, .slice h.a2 h.n2 h.c2, .int .i64 ep, .slice la ln lc, .int .i64 su, .slice fa fn fc, .int .i64 ha] #[.slice none 0 0, .slice none 0 0, .bool false, .slice none 0 0, .int .i64 0, .slice none 0 0, .int .i64 0, .slice none 0 0, .int .i64 0] #[.slice h'.a0 h'.n0 h'.c0, .slice h'.a1 h'.n1 h'.c1, .bool false, .slice none 0 0, .int .i64 0, .slice none 0 0, .int .i64 0, .slice none 0 0, .int .i64 0]) := by unfold Hid; rw [← hVa1]; exact Ta0.out.set 1 _ rfl
  have c1 : Va0.cell? ⟨w.heap.size + 1 + 1, 1, none⟩ = some (.slice none 0 0) := Ta0.out.o.cell 1
  have z1 := Ta0.out.o.thaw 1
  obtain ⟨Va2, hVa2⟩ : ∃ W, Va1.setCell ⟨w.heap.size + 1 + 1, 2, none⟩ (.bool h'.b) = W := ⟨_, rfl⟩
  have Ta2 : Hid (T3 w Va2 51 30 #[.slice h.a0 h.n0 h.c0, .slice h.a1 h.n1 h.c1, .bool h.b, .slice h.a2 h.n2 h.c2, .int .i64 ep, .slice la ln lc, .int .i64 su, .slice fa fn fc, .int .i64 ha] #[.slice none 0 0, .slice none 0 0, .bool false, .slice none 0 0, .int .i64 0, .slice none 0 0, .int .i64 0, .slice none 0 0, .int .i64 0] #[.slice h'.a0 h'.n0 h'.c0, .slice h'.a1 h'.n1 h'.c1, .bool h'.b, .slice none 0 0, .int .i64 0, .slice none 0 0, .int .i64 0, .slice none 0 0, .int .i64 0]) := by unfold Hid; rw [← hVa2]; exact Ta1.out.set 2 _ rfl
  have c2 : Va1.cell? ⟨w.heap.size + 1 + 1, 2, none⟩ = some (.bool false) := Ta1.out.o.cell 2
  have z2 := Ta1.out.o.thaw 2
  obtain ⟨Va3, hVa3⟩ : ∃ W, Va2.setCell ⟨w.heap.size + 1 + 1, 3, none⟩ (.slice h'.a2 h'.n2 h'.c2) = W := ⟨_, rfl⟩
  have Ta3 : Hid (T3 w Va3 51 30 #[.slice h.a0 h.n0 h.c0, .slice h.a1 h.n1 h.c1, .bool h.b, .slice h.a2 h.n2 h.c2, .int .i64 ep, .slice la ln lc, .int .i64 su, .slice fa fn fc, .int .i64 ha] #[.slice none 0 0, .slice none 0 0, .bool false, .slice none 0 0, .int .i64 0, .slice none 0 0, .int .i64 0, .slice none 0 0, .int .i64 0] #[.slice h'.a0 h'.n0 h'.c0, .slice h'.a1 h'.n1 h'.c1, .bool h'.b, .slice h'.a2 h'.n2 h'.c2, .int .i64 0, .slice none 0 0, .int .i64 0, .slice none 0 0, .int .i64 0]) := by unfold Hid; rw [← hVa3]; exact Ta2.out.set 3 _ rfl
  have c3 : Va2.cell? ⟨w.heap.size + 1 + 1, 3, none⟩ = some (.slice none 0 0) := Ta2.out.o.cell 3
  have z3 := Ta2.out.o.thaw 3
  obtain ⟨Va4, hVa4⟩ : ∃ W, Va3.setCell ⟨w.heap.size + 1 + 1, 4, none⟩ (.int .i64 ep) = W := ⟨_, rfl⟩
  have Ta4 : Hid (T3 w Va4 51 30 #[.slice h.a0 h.n0 h.c0, .slice h.a1 h.n1 h.c1, .bool h.b, .slice h.a2 h.n2 h.c2, .int .i64 ep, .slice la ln lc, .int .i64 su, .slice fa fn fc, .int .i64 ha] #[.slice none 0 0, .slice none 0 0, .bool false, .slice none 0 0, .int .i64 0, .slice none 0 0, .int .i64 0, .slice none 0 0, .int .i64 0] #[.slice h'.a0 h'.n0 h'.c0, .slice h'.a1 h'.n1 h'.c1, .bool h'.b, .slice h'.a2 h'.n2 h'.c2, .int .i64 ep, .slice none 0 0, .int .i64 0, .slice none 0 0, .int .i64 0]) := by unfold Hid; rw [← hVa4]; exact Ta3.out.set 4 _ rfl
  have c4 : Va3.cell? ⟨w.heap.size + 1 + 1, 4, none⟩ = some (.int .i64 0) := Ta3.out.o.cell 4
  have z4 := Ta3.out.o.thaw 4
  have a4 : Va3.cell? ⟨w.heap.size, 4, none⟩ = some (.int .i64 ep) := Ta3.out.a.cell 4
  have a5 : Va4.cell? ⟨w.heap.size, 5, none⟩ = some (.slice la ln lc) := Ta4.out.a.cell 5
  have sa : w1.heap.size ≤ Va4.heap.size ∧ Va4.heap.size ≤ w1.heap.size := by rw [← hVa4, ← hVa3, ← hVa2, ← hVa1, ← hVa0]; simp
  have K1 : Hid (∀ g, V.heap.size ≤ g → Va4.heap[g]? = w1.heap[g]?) := fun g hg => by
    rw [← hVa4, ← hVa3, ← hVa2, ← hVa1, ← hVa0, Below.heap_setCell _ _ _ _ (by simp; omega), Below.heap_setCell _ _ _ _ (by simp; omega), Below.heap_setCell _ _ _ _ (by simp; omega), Below.heap_setCell _ _ _ _ (by simp; omega), Below.heap_setCell _ _ _ _ (by simp; omega)]
  have O2 : Hid (OwnD Va4 V.heap.size w1.heap.size h' D) := O1.out.same (by omega) fun g h1 _ => K1.out g h1
  have C2' := C2.out Va4 Ta4.out.bel
  clear K1 O1 T1 Ta0 Ta1 Ta2 Ta3 C2
  go_wp2_with fail
  refine C2'.mono ?_
  rintro e w2 ⟨rfl, oq, hb⟩
  obtain ⟨q, hq⟩ : ∃ q, Va4.heap.size = q := ⟨_, rfl⟩
  rw [hq] at oq
  have T2 : Hid (T3 w w2 51 30 #[.slice h.a0 h.n0 h.c0, .slice h.a1 h.n1 h.c1, .bool h.b, .slice h.a2 h.n2 h.c2, .int .i64 ep, .slice la ln lc, .int .i64 su, .slice fa fn fc, .int .i64 ha] #[.slice none 0 0, .slice none 0 0, .bool false, .slice none 0 0, .int .i64 0, .slice none 0 0, .int .i64 0, .slice none 0 0, .int .i64 0] #[.slice h'.a0 h'.n0 h'.c0, .slice h'.a1 h'.n1 h'.c1, .bool h'.b, .slice h'.a2 h'.n2 h'.c2, .int .i64 ep, .slice none 0 0, .int .i64 0, .slice none 0 0, .int .i64 0]) := Ta4.out.below hb
  have O3 : Hid (OwnD w2 V.heap.size w1.heap.size h' D) := O2.out.below hb
  have Q3 : Hid (w2.ownsRow q 75 10 (.slice (some ⟨q, 0, none⟩) ln ln) ln (cellsQ L)) := oq
  have sq : q < w2.heap.size := oq.lt q rfl |>.2
  have s2 : w1.heap.size ≤ q ∧ q ≤ w1.heap.size := by omega
  rw [hq]
  clear hq sa hb oq C2' O2 Ta4 a4 a5 c0 z0 hVa0 c1 z1 hVa1 c2 z2 hVa2 c3 z3 hVa3 c4 z4 hVa4
  obtain ⟨Vb5, hVb5⟩ : ∃ W, w2.setCell ⟨w.heap.size + 1 + 1, 5, none⟩ (.slice (some ⟨q, 0, none⟩) ln ln) = W := ⟨_, rfl⟩
  have Tb5 : Hid (T3 w Vb5 51 30 #[.slice h.a0 h.n0 h.c0, .slice h.a1 h.n1 h.c1, .bool h.b, .slice h.a2 h.n2 h.c2, .int .i64 ep, .slice la ln lc, .int .i64 su, .slice fa fn fc, .int .i64 ha] #[.slice none 0 0, .slice none 0 0, .bool false, .slice none 0 0, .int .i64 0, .slice none 0 0, .int .i64 0, .slice none 0 0, .int .i64 0] #[.slice h'.a0 h'.n0 h'.c0, .slice h'.a1 h'.n1 h'.c1, .bool h'.b, .slice h'.a2 h'.n2 h'.c2, .int .i64 ep, .slice (some ⟨q, 0, none⟩) ln ln, .int .i64 0, .slice none 0 0, .int .i64 0]) := by unfold Hid; rw [← hVb5]; exact T2.out.set 5 _ rfl
  have c5 : w2.cell? ⟨w.heap.size + 1 + 1, 5, none⟩ = some (.slice none 0 0) := T2.out.o.cell 5
  have z5 := T2.out.o.thaw 5
  obtain ⟨Vb6, hVb6⟩ : ∃ W, Vb5.setCell ⟨w.heap.size + 1 + 1, 6, none⟩ (.int .i64 su) = W := ⟨_, rfl⟩
  have Tb6 : Hid (T3 w Vb6 51 30 #[.slice h.a0 h.n0 h.c0, .slice h.a1 h.n1 h.c1, .bool h.b, .slice h.a2 h.n2 h.c2, .int .i64 ep, .slice la ln lc, .int .i64 su, .slice fa fn fc, .int .i64 ha] #[.slice none 0 0, .slice none 0 0, .bool false, .slice none 0 0, .int .i64 0, .slice none 0 0, .int .i64 0, .slice none 0 0, .int .i64 0] #[.slice h'.a0 h'.n0 h'.c0, .slice h'.a1 h'.n1 h'.c1, .bool h'.b, .slice h'.a2 h'.n2 h'.c2, .int .i64 ep, .slice (some ⟨q, 0, none⟩) ln ln, .int .i64 su, .slice none 0 0, .int .i64 0]) := by unfold Hid; rw [← hVb6]; exact Tb5.out.set 6 _ rfl
  have c6 : Vb5.cell? ⟨w.heap.size + 1 + 1, 6, none⟩ = some (.int .i64 0) := Tb5.out.o.cell 6
  have z6 := Tb5.out.o.thaw 6
  have a6 : Vb5.cell? ⟨w.heap.size, 6, none⟩ = some (.int .i64 su) := Tb5.out.a.cell 6
  have a7 : Vb6.cell? ⟨w.heap.size, 7, none⟩ = some (.slice fa fn fc) := Tb6.out.a.cell 7
  have sb : w2.heap.size ≤ Vb6.heap.size ∧ Vb6.heap.size ≤ w2.heap.size := by rw [← hVb6, ← hVb5]; simp
  have K2 : Hid (∀ g, V.heap.size ≤ g → Vb6.heap[g]? = w2.heap[g]?) := fun g hg => by
    rw [← hVb6, ← hVb5, Below.heap_setCell _ _ _ _ (by simp; omega), Below.heap_setCell _ _ _ _ (by simp; omega)]
  have O4 : Hid (OwnD Vb6 V.heap.size w1.heap.size h' D) := O3.out.same (by omega) fun g h1 _ => K2.out g h1
  have Q4 : Hid (Vb6.ownsRow q 75 10 (.slice (some ⟨q, 0, none⟩) ln ln) ln (cellsQ L)) := own_same Q3.out fun g e => by
    rw [ob_slice] at e
    have e' : q = g := by simpa [ob] using e
    exact K2.out g (by omega)
  have C3' := C3.out Vb6 Tb6.out.bel
  clear K2 O3 Q3 T2 Tb5 C3
  go_wp2_with fail
  refine C3'.mono ?_
  rintro e w3 ⟨⟨gs, rfl, hsame, ofr, opg⟩, hb⟩
  obtain ⟨f, hf⟩ : ∃ f, Vb6.heap.size = f := ⟨_, rfl⟩
  rw [hf] at ofr opg
  have T4 : Hid (T3 w w3 51 30 #[.slice h.a0 h.n0 h.c0, .slice h.a1 h.n1 h.c1, .bool h.b, .slice h.a2 h.n2 h.c2, .int .i64 ep, .slice la ln lc, .int .i64 su, .slice fa fn fc, .int .i64 ha] #[.slice none 0 0, .slice none 0 0, .bool false, .slice none 0 0, .int .i64 0, .slice none 0 0, .int .i64 0, .slice none 0 0, .int .i64 0] #[.slice h'.a0 h'.n0 h'.c0, .slice h'.a1 h'.n1 h'.c1, .bool h'.b, .slice h'.a2 h'.n2 h'.c2, .int .i64 ep, .slice (some ⟨q, 0, none⟩) ln ln, .int .i64 su, .slice none 0 0, .int .i64 0]) := Tb6.out.below hb
  have O5 : Hid (OwnD w3 V.heap.size w1.heap.size h' D) := O4.out.below hb
  have Q5 : Hid (w3.ownsRow q 75 10 (.slice (some ⟨q, 0, none⟩) ln ln) ln (cellsQ L)) := own_below Q4.out hb
  have F5 : Hid (w3.ownsRow f 109 5 (.slice (some ⟨f, 0, none⟩) fn fn) fn (cellsF gs)) := ofr
  have P5 : Hid (OwnF w3 (f + 1) w3.heap.size gs) := opg
  have HSM : Hid (SameF F gs) := hsame
  have sf : f < w3.heap.size := ofr.lt f rfl |>.2
  have s3 : w2.heap.size ≤ f ∧ f ≤ w2.heap.size := by omega
  rw [hf]
  clear hf sb hb ofr opg hsame C3' O4 Q4 Tb6 a6 a7 c5 z5 hVb5 c6 z6 hVb6
  obtain ⟨Vc7, hVc7⟩ : ∃ W, w3.setCell ⟨w.heap.size + 1 + 1, 7, none⟩ (.slice (some ⟨f, 0, none⟩) fn fn) = W := ⟨_, rfl⟩
  have Tc7 : Hid (T3 w Vc7 51 30 #[.slice h.a0 h.n0 h.c0, .slice h.a1 h.n1 h.c1, .bool h.b, .slice h.a2 h.n2 h.c2, .int .i64 ep, .slice la ln lc, .int .i64 su, .slice fa fn fc, .int .i64 ha] #[.slice none 0 0, .slice none 0 0, .bool false, .slice none 0 0, .int .i64 0, .slice none 0 0, .int .i64 0, .slice none 0 0, .int .i64 0] #[.slice h'.a0 h'.n0 h'.c0, .slice h'.a1 h'.n1 h'.c1, .bool h'.b, .slice h'.a2 h'.n2 h'.c2, .int .i64 ep, .slice (some ⟨q, 0, none⟩) ln ln, .int .i64 su, .slice (some ⟨f, 0, none⟩) fn fn, .int .i64 0]) := by unfold Hid; rw [← hVc7]; exact T4.out.set 7 _ rfl
  have c7 : w3.cell? ⟨w.heap.size + 1 + 1, 7, none⟩ = some (.slice none 0 0) := T4.out.o.cell 7
  have z7 := T4.out.o.thaw 7
  obtain ⟨Vc8, hVc8⟩ : ∃ W, Vc7.setCell ⟨w.heap.size + 1 + 1, 8, none⟩ (.int .i64 ha) = W := ⟨_, rfl⟩
  have Tc8 : Hid (T3 w Vc8 51 30 #[.slice h.a0 h.n0 h.c0, .slice h.a1 h.n1 h.c1, .bool h.b, .slice h.a2 h.n2 h.c2, .int .i64 ep, .slice la ln lc, .int .i64 su, .slice fa fn fc, .int .i64 ha] #[.slice none 0 0, .slice none 0 0, .bool false, .slice none 0 0, .int .i64 0, .slice none 0 0, .int .i64 0, .slice none 0 0, .int .i64 0] #[.slice h'.a0 h'.n0 h'.c0, .slice h'.a1 h'.n1 h'.c1, .bool h'.b, .slice h'.a2 h'.n2 h'.c2, .int .i64 ep, .slice (some ⟨q, 0, none⟩) ln ln, .int .i64 su, .slice (some ⟨f, 0, none⟩) fn fn, .int .i64 ha]) := by unfold Hid; rw [← hVc8]; exact Tc7.out.set 8 _ rfl
  have c8 : Vc7.cell? ⟨w.heap.size + 1 + 1, 8, none⟩ = some (.int .i64 0) := Tc7.out.o.cell 8
  have z8 := Tc7.out.o.thaw 8
  have a8 : Vc7.cell? ⟨w.heap.size, 8, none⟩ = some (.int .i64 ha) := Tc7.out.a.cell 8
  have sc : w3.heap.size ≤ Vc8.heap.size ∧ Vc8.heap.size ≤ w3.heap.size := by rw [← hVc8, ← hVc7]; simp
  have K3 : Hid (∀ g, V.heap.size ≤ g → (((((((((Vc8.setCell ⟨w.heap.size + 1, 0, none⟩ (.slice h'.a0 h'.n0 h'.c0)).setCell ⟨w.heap.size + 1, 1, none⟩ (.slice h'.a1 h'.n1 h'.c1)).setCell ⟨w.heap.size + 1, 2, none⟩ (.bool h'.b)).setCell ⟨w.heap.size + 1, 3, none⟩ (.slice h'.a2 h'.n2 h'.c2)).setCell ⟨w.heap.size + 1, 4, none⟩ (.int .i64 ep)).setCell ⟨w.heap.size + 1, 5, none⟩ (.slice (some ⟨q, 0, none⟩) ln ln)).setCell ⟨w.heap.size + 1, 6, none⟩ (.int .i64 su)).setCell ⟨w.heap.size + 1, 7, none⟩ (.slice (some ⟨f, 0, none⟩) fn fn)).setCell ⟨w.heap.size + 1, 8, none⟩ (.int .i64 ha)).heap[g]? = w3.heap[g]?) := fun g hg => by
    rw [put9_same _ _ _ _ _ _ _ _ _ _ _ _ (by omega), ← hVc8, ← hVc7, Below.heap_setCell _ _ _ _ (by simp; omega), Below.heap_setCell _ _ _ _ (by simp; omega)]
  have sz : Hid ((((((((((Vc8.setCell ⟨w.heap.size + 1, 0, none⟩ (.slice h'.a0 h'.n0 h'.c0)).setCell ⟨w.heap.size + 1, 1, none⟩ (.slice h'.a1 h'.n1 h'.c1)).setCell ⟨w.heap.size + 1, 2, none⟩ (.bool h'.b)).setCell ⟨w.heap.size + 1, 3, none⟩ (.slice h'.a2 h'.n2 h'.c2)).setCell ⟨w.heap.size + 1, 4, none⟩ (.int .i64 ep)).setCell ⟨w.heap.size + 1, 5, none⟩ (.slice (some ⟨q, 0, none⟩) ln ln)).setCell ⟨w.heap.size + 1, 6, none⟩ (.int .i64 su)).setCell ⟨w.heap.size + 1, 7, none⟩ (.slice (some ⟨f, 0, none⟩) fn fn)).setCell ⟨w.heap.size + 1, 8, none⟩ (.int .i64 ha)).heap.size = w3.heap.size) := by
    unfold Hid
    have : (((((((((Vc8.setCell ⟨w.heap.size + 1, 0, none⟩ (.slice h'.a0 h'.n0 h'.c0)).setCell ⟨w.heap.size + 1, 1, none⟩ (.slice h'.a1 h'.n1 h'.c1)).setCell ⟨w.heap.size + 1, 2, none⟩ (.bool h'.b)).setCell ⟨w.heap.size + 1, 3, none⟩ (.slice h'.a2 h'.n2 h'.c2)).setCell ⟨w.heap.size + 1, 4, none⟩ (.int .i64 ep)).setCell ⟨w.heap.size + 1, 5, none⟩ (.slice (some ⟨q, 0, none⟩) ln ln)).setCell ⟨w.heap.size + 1, 6, none⟩ (.int .i64 su)).setCell ⟨w.heap.size + 1, 7, none⟩ (.slice (some ⟨f, 0, none⟩) fn fn)).setCell ⟨w.heap.size + 1, 8, none⟩ (.int .i64 ha)).heap.size = Vc8.heap.size := by simp
    omega
  have HOS : Hid (OwnS (((((((((Vc8.setCell ⟨w.heap.size + 1, 0, none⟩ (.slice h'.a0 h'.n0 h'.c0)).setCell ⟨w.heap.size + 1, 1, none⟩ (.slice h'.a1 h'.n1 h'.c1)).setCell ⟨w.heap.size + 1, 2, none⟩ (.bool h'.b)).setCell ⟨w.heap.size + 1, 3, none⟩ (.slice h'.a2 h'.n2 h'.c2)).setCell ⟨w.heap.size + 1, 4, none⟩ (.int .i64 ep)).setCell ⟨w.heap.size + 1, 5, none⟩ (.slice (some ⟨q, 0, none⟩) ln ln)).setCell ⟨w.heap.size + 1, 6, none⟩ (.int .i64 su)).setCell ⟨w.heap.size + 1, 7, none⟩ (.slice (some ⟨f, 0, none⟩) fn fn)).setCell ⟨w.heap.size + 1, 8, none⟩ (.int .i64 ha)) w.heap.size (((((((((Vc8.setCell ⟨w.heap.size + 1, 0, none⟩ (.slice h'.a0 h'.n0 h'.c0)).setCell ⟨w.heap.size + 1, 1, none⟩ (.slice h'.a1 h'.n1 h'.c1)).setCell ⟨w.heap.size + 1, 2, none⟩ (.bool h'.b)).setCell ⟨w.heap.size + 1, 3, none⟩ (.slice h'.a2 h'.n2 h'.c2)).setCell ⟨w.heap.size + 1, 4, none⟩ (.int .i64 ep)).setCell ⟨w.heap.size + 1, 5, none⟩ (.slice (some ⟨q, 0, none⟩) ln ln)).setCell ⟨w.heap.size + 1, 6, none⟩ (.int .i64 su)).setCell ⟨w.heap.size + 1, 7, none⟩ (.slice (some ⟨f, 0, none⟩) fn fn)).setCell ⟨w.heap.size + 1, 8, none⟩ (.int .i64 ha)).heap.size h' D (some ⟨q, 0, none⟩) ln ln L (some ⟨f, 0, none⟩) fn fn gs) := by
    have sz' := sz.out
    unfold Hid
    refine ⟨q, f, f + 1, by omega, by omega, by omega, by omega, Nat.le_refl _, ?_, ?_, ?_, ?_, ?_, ?_⟩
    · have := O5.out.same (w' := (((((((((Vc8.setCell ⟨w.heap.size + 1, 0, none⟩ (.slice h'.a0 h'.n0 h'.c0)).setCell ⟨w.heap.size + 1, 1, none⟩ (.slice h'.a1 h'.n1 h'.c1)).setCell ⟨w.heap.size + 1, 2, none⟩ (.bool h'.b)).setCell ⟨w.heap.size + 1, 3, none⟩ (.slice h'.a2 h'.n2 h'.c2)).setCell ⟨w.heap.size + 1, 4, none⟩ (.int .i64 ep)).setCell ⟨w.heap.size + 1, 5, none⟩ (.slice (some ⟨q, 0, none⟩) ln ln)).setCell ⟨w.heap.size + 1, 6, none⟩ (.int .i64 su)).setCell ⟨w.heap.size + 1, 7, none⟩ (.slice (some ⟨f, 0, none⟩) fn fn)).setCell ⟨w.heap.size + 1, 8, none⟩ (.int .i64 ha))) (by omega) fun g h1 _ => K3.out g h1
      exact this.from (by omega) (by omega) (by omega)
    · refine own_same Q5.out fun g e => ?_
      rw [ob_slice] at e
      have e' : q = g := by simpa [ob] using e
      exact K3.out g (by omega)
    · intro g e
      have e' : q = g := by simpa [ob] using e
      omega
    · refine own_same F5.out fun g e => ?_
      rw [ob_slice] at e
      have e' : f = g := by simpa [ob] using e
      exact K3.out g (by omega)
    · intro g e
      have e' : f = g := by simpa [ob] using e
      omega
    · rw [sz']
      exact P5.out.same (by omega) fun g h1 _ => K3.out g (by omega)
  obtain ⟨y0, y1, y2, y3, y4, y5, y6, y7, y8⟩ := box9 Tc8.out.o
  obtain ⟨r0, r1, r2, r3, r4, r5, r6, r7, r8⟩ := box9 Tc8.out.r
  have t0 := Tc8.out.r.thaw 0
  have t1 := Tc8.out.r.thaw 1
  have t2 := Tc8.out.r.thaw 2
  have t3 := Tc8.out.r.thaw 3
  have t4 := Tc8.out.r.thaw 4
  have t5 := Tc8.out.r.thaw 5
  have t6 := Tc8.out.r.thaw 6
  have t7 := Tc8.out.r.thaw 7
  have t8 := Tc8.out.r.thaw 8
  clear K3 O5 Q5 F5 P5 T4 Tc7
  go_wp2
  refine ret9 Tryd.results24 rfl rfl (put9_box Tc8.out.r _ _ _ _ _ _ _ _ _) ⟨⟨h', some ⟨q, 0, none⟩, ln, some ⟨f, 0, none⟩, fn, gs, rfl, HSM.out, HOS.out⟩, put9_below Tc8.out.bel (by omega) _ _ _ _ _ _ _ _ _⟩
set_option maxRecDepth 100000 in
set_option maxHeartbeats 8000000 in
theorem c_eqST (h h' : HD) (D : DD) (ep : Int) (la la' : Option Addr) (ln lc lc' : Nat) (L : List DR) (su : Int) (fa fa' : Option Addr) (fn fc fc' : Nat) (F F' : List FF) (ha : Int) (w : World) (r : RdD w h D) (r' : RdD w h' D) (rl : RdQ w la ln L) (rl' : RdQ w la' ln L) (rf : RdF w fa fn F) (rf' : RdF w fa' fn F') (hs : SameF F F') (hf : FitS D ln L fn F) :
    Calls Tryd.prog 19 #[.agg #[.slice h.a0 h.n0 h.c0, .slice h.a1 h.n1 h.c1, .bool h.b, .slice h.a2 h.n2 h.c2, .int .i64 ep, .slice la ln lc, .int .i64 su, .slice fa fn fc, .int .i64 ha], .agg #[.slice h'.a0 h'.n0 h'.c0, .slice h'.a1 h'.n1 h'.c1, .bool h'.b, .slice h'.a2 h'.n2 h'.c2, .int .i64 ep, .slice la' ln lc', .int .i64 su, .slice fa' fn fc', .int .i64 ha]] w fun e w' => e = .returned (.bool true) ∧ Below w.heap.size w w' := by
  obtain ⟨V, hV⟩ : ∃ V, (w.alloc (.cells #[.slice h.a0 h.n0 h.c0, .slice h.a1 h.n1 h.c1, .bool h.b, .slice h.a2 h.n2 h.c2, .int .i64 ep, .slice la ln lc, .int .i64 su, .slice fa fn fc, .int .i64 ha] 30)).alloc (.cells #[.slice h'.a0 h'.n0 h'.c0, .slice h'.a1 h'.n1 h'.c1, .bool h'.b, .slice h'.a2 h'.n2 h'.c2, .int .i64 ep, .slice la' ln lc', .int .i64 su, .slice fa' fn fc', .int .i64 ha] 30) = V := ⟨_, rfl⟩
  have B0 : Hid (Below w.heap.size w V) := by unfold Hid; rw [← hV]; exact ((Below.refl _ _).alloc (Nat.le_refl _) _).alloc (by simp) _
  have X0 : Hid (Box V w.heap.size 30 #[.slice h.a0 h.n0 h.c0, .slice h.a1 h.n1 h.c1, .bool h.b, .slice h.a2 h.n2 h.c2, .int .i64 ep, .slice la ln lc, .int .i64 su, .slice fa fn fc, .int .i64 ha]) := by unfold Hid; rw [← hV]; exact (Box.new _ _ _).alloc _
  have Y0 : Hid (Box V (w.heap.size + 1) 30 #[.slice h'.a0 h'.n0 h'.c0, .slice h'.a1 h'.n1 h'.c1, .bool h'.b, .slice h'.a2 h'.n2 h'.c2, .int .i64 ep, .slice la' ln lc', .int .i64 su, .slice fa' fn fc', .int .i64 ha]) := by unfold Hid; rw [← hV]; exact Box.new2 _ _ _ _
  have C1 := c_eqDisk h h' D V (r.below B0.out) (r'.below B0.out) hf.1
  have C2 : Hid (∀ W, Below w.heap.size w W → Calls Tryd.prog 30 #[.slice la ln lc, .slice la' ln lc'] W fun e w' => e = .returned (.bool true) ∧ Below W.heap.size W w') := fun W hW => c_eqQ la la' ln lc lc' L W (rl.below hW) (rl'.below hW) hf.2.1.1
  have C3 : Hid (∀ W, Below w.heap.size w W → Calls Tryd.prog 65 #[.slice fa fn fc, .slice fa' fn fc'] W fun e w' => e = .returned (.bool true) ∧ Below W.heap.size W w') := fun W hW => c_eqF fa fa' fn fc fc' F F' W (rf.below hW) (rf'.below hW) hs hf.2.2.1 hf.2.2.2
  have n1 : (ep != ep) = false := by simp
  have n2 : (su != su) = false := by simp
  have n3 : (ha != ha) = false := by simp
  clear r r' rl rl' rf rf' hs hf
  obtain ⟨x0, x1, x2, x3, x4, x5, x6, x7, x8⟩ := box9 X0.out
  obtain ⟨y0, y1, y2, y3, y4, y5, y6, y7, y8⟩ := box9 Y0.out
  go_enter Tryd.func19, Tryd.ntmps19
  go_wp2_with fail
  refine C1.mono ?_
  rintro e w1 ⟨rfl, hb⟩
  have B1 : Hid (Below w.heap.size w w1) := B0.out.trans (hb.mono B0.out.size)
  have X1 : Hid (Box w1 w.heap.size 30 #[.slice h.a0 h.n0 h.c0, .slice h.a1 h.n1 h.c1, .bool h.b, .slice h.a2 h.n2 h.c2, .int .i64 ep, .slice la ln lc, .int .i64 su, .slice fa fn fc, .int .i64 ha]) := X0.out.belowS hb
  have Y1 : Hid (Box w1 (w.heap.size + 1) 30 #[.slice h'.a0 h'.n0 h'.c0, .slice h'.a1 h'.n1 h'.c1, .bool h'.b, .slice h'.a2 h'.n2 h'.c2, .int .i64 ep, .slice la' ln lc', .int .i64 su, .slice fa' fn fc', .int .i64 ha]) := Y0.out.belowS hb
  clear hb C1 B0 X0 Y0 hV x0 x1 x2 x3 x4 x5 x6 x7 x8 y0 y1 y2 y3 y4 y5 y6 y7 y8
  obtain ⟨x0, x1, x2, x3, x4, x5, x6, x7, x8⟩ := box9 X1.out
  obtain ⟨y0, y1, y2, y3, y4, y5, y6, y7, y8⟩ := box9 Y1.out
  go_wp2_with fail
  refine (C2.out w1 B1.out).mono ?_
  rintro e w2 ⟨rfl, hb⟩
  have B2 : Hid (Below w.heap.size w w2) := B1.out.trans (hb.mono B1.out.size)
  have X2 : Hid (Box w2 w.heap.size 30 #[.slice h.a0 h.n0 h.c0, .slice h.a1 h.n1 h.c1, .bool h.b, .slice h.a2 h.n2 h.c2, .int .i64 ep, .slice la ln lc, .int .i64 su, .slice fa fn fc, .int .i64 ha]) := X1.out.belowS hb
  have Y2 : Hid (Box w2 (w.heap.size + 1) 30 #[.slice h'.a0 h'.n0 h'.c0, .slice h'.a1 h'.n1 h'.c1, .bool h'.b, .slice h'.a2 h'.n2 h'.c2, .int .i64 ep, .slice la' ln lc', .int .i64 su, .slice fa' fn fc', .int .i64 ha]) := Y1.out.belowS hb
  clear hb C2 B1 X1 Y1 x0 x1 x2 x3 x4 x5 x6 x7 x8 y0 y1 y2 y3 y4 y5 y6 y7 y8
  obtain ⟨x0, x1, x2, x3, x4, x5, x6, x7, x8⟩ := box9 X2.out
  obtain ⟨y0, y1, y2, y3, y4, y5, y6, y7, y8⟩ := box9 Y2.out
  go_wp2_with fail
  refine (C3.out w2 B2.out).mono ?_
  rintro e w3 ⟨rfl, hb⟩
  have B3 : Hid (Below w.heap.size w w3) := B2.out.trans (hb.mono B2.out.size)
  have X3 : Hid (Box w3 w.heap.size 30 #[.slice h.a0 h.n0 h.c0, .slice h.a1 h.n1 h.c1, .bool h.b, .slice h.a2 h.n2 h.c2, .int .i64 ep, .slice la ln lc, .int .i64 su, .slice fa fn fc, .int .i64 ha]) := X2.out.belowS hb
  have Y3 : Hid (Box w3 (w.heap.size + 1) 30 #[.slice h'.a0 h'.n0 h'.c0, .slice h'.a1 h'.n1 h'.c1, .bool h'.b, .slice h'.a2 h'.n2 h'.c2, .int .i64 ep, .slice la' ln lc', .int .i64 su, .slice fa' fn fc', .int .i64 ha]) := Y2.out.belowS hb
  clear hb C3 B2 X2 Y2 x0 x1 x2 x3 x4 x5 x6 x7 x8 y0 y1 y2 y3 y4 y5 y6 y7 y8
  obtain ⟨x0, x1, x2, x3, x4, x5, x6, x7, x8⟩ := box9 X3.out
  obtain ⟨y0, y1, y2, y3, y4, y5, y6, y7, y8⟩ := box9 Y3.out
  go_wp2
  go_ret
  exact ⟨rfl, B3.out⟩

end Go.Proofs.YtpomedfofnceeaaDoor
namespace Go.Proofs.YtpomedfofnceeaaDoor
open Go Go.RowKit
attribute [local go_sem ↓] Go.wp_at_zero Go.wp_at_succ


set_option maxRecDepth 100000 in
set_option maxHeartbeats 2000000 in
theorem c_unsealS (zs : List Int) (w : World) (hz : ∀ z ∈ zs, 0 ≤ z ∧ z < 256) (hn : zs.length ≤ 65536) (h4 : 4 ≤ zs.length) :
    Calls Tryd.prog 105 #[.string (strOfNums zs)] w fun e w' => e = .returned (.tuple #[.string (unsT zs (unsB zs)), .bool (unsB zs)]) ∧ Below w.heap.size w w' := by
  obtain ⟨t, ht⟩ : ∃ t, t = strOfNums zs := ⟨_, rfl⟩
  obtain ⟨hd, hhd⟩ : ∃ t, t = strOfNums (headZ zs) := ⟨_, rfl⟩
  obtain ⟨tl, htl⟩ : ∃ t, t = strOfNums (tailZ zs) := ⟨_, rfl⟩
  obtain ⟨m, hm⟩ : ∃ m, m = zs.length - 4 := ⟨_, rfl⟩
  have hts : t.size = m + 4 := by rw [ht, strOfNums_size]; omega
  have x1 : t.extract 0 m = hd := by rw [ht, hhd, hm]; exact cut_head
  have x2 : t.extract m (m + 4) = tl := by rw [ht, htl, hm, show zs.length - 4 + 4 = zs.length by omega]; exact cut_tail
  obtain ⟨C, hC⟩ : ∃ C : Int, C = (Crc.crc (headZ zs) : Nat) := ⟨_, rfl⟩
  obtain ⟨O, hO⟩ : ∃ O : Int, O = ofL (tailZ zs) := ⟨_, rfl⟩
  have hcmp : (C != O) = !unsB zs := by rw [hC, hO]; exact of_sum h4 hz
  have hcv : ∀ W : World, (convert 9 65 (.string hd)).run Tryd.prog W = .ok (.slice (some ⟨W.heap.size, 0, none⟩) m (grownCap W m 0 5)) (W.drew.alloc (.cells (bytesRow hd (grownCap W m 0 5)) 5 ((bytesRow hd (grownCap W m 0 5)).size, (bytesRow hd (grownCap W m 0 5)).size + 1))) := fun W => by
    have hs : hd.size = m := by rw [hhd, strOfNums_size, headZ_len, hm]
    have := run_bytes_of_string (P := Tryd.prog) W 9 65 5 hd Tryd.underlying9 Tryd.underlying65 Tryd.underlying5
    rw [hs] at this
    exact this
  have CHK : Hid (∀ (c cp : Nat) (fr : Nat × Nat), Calls Tryd.prog 140 #[.slice (some ⟨w.heap.size, 0, none⟩) m cp] (w.alloc (.cells (bytesRow hd c) 5 fr)).drew.drew fun e w' => e = .returned (.int .i64 C) ∧ w' = (w.alloc (.cells (bytesRow hd c) 5 fr)).drew.drew) := fun c cp fr => by
    rw [hC, hhd]
    have hs : m = (headZ zs).length := by rw [headZ_len, hm]
    rw [hs]
    exact c14 _ _ cp (headZ zs) _ (conv_rd (head_bytes hz)) (by rw [headZ_len]; omega)
  have OFF : Hid (∀ W : World, Calls Tryd.prog 141 #[.string tl] W fun e w' => e = .returned (.int .i64 O) ∧ w' = W) := fun W => by
    rw [hO, htl]
    exact c_of (tailZ zs) W (fun z h => hz z (List.mem_of_mem_drop h)) (by unfold tailZ; rw [List.length_drop]; omega)
  have HH : Hid (hd = strOfNums (headZ zs)) := hhd
  have hmb : m ≤ 65536 := by omega
  rw [← ht]
  clear hz ht hhd htl hC hO h4 hm hn
  have z0 : ¬ (m : Int) < 0 := by omega
  have z1 : (0 : Int) ≤ (m : Int) := by omega
  have z2 : (m : Int) ≤ (m : Int) + 4 := by omega
  cases hu : unsB zs
  all_goals
    rw [hu] at hcmp
    go_enter Tryd.func105, Tryd.ntmps105
    go_wp2_with fail
    go_region_held (fun _ => True) (trivial) (first
        | (go_at_call 140; refine (CHK.out _ _ _).mono ?_; rintro e w1 ⟨rfl, hq1⟩; have B1 : Hid (Below w.heap.size w w1) := (by unfold Hid; rw [hq1]; exact ((Below.refl _ _).alloc (Nat.le_refl _) _).drew.drew); clear hq1)
        | (go_at_call 141; refine (OFF.out _).mono ?_; rintro e w2 ⟨rfl, hq2⟩; have B2 : Hid (Below w.heap.size w w2) := (by unfold Hid; rw [hq2]; exact B1.out); clear hq2))
    clear hcv CHK OFF
    go_wp2
    go_ret2
    exact ⟨by first | rfl | (unfold unsT; rw [← HH.out]; rfl), B2.out⟩

end Go.Proofs.YtpomedfofnceeaaDoor
namespace Go.Proofs.YtpomedfofnceeaaDoor.G
open Go Go.RowKit
attribute [local go_sem ↓] Go.wp_at_zero Go.wp_at_succ


theorem pair_of {x : List Int} (h : 4 ≤ x.length) : ofL ((x.drop 2).take 2) = lsnZ x := by
  have e : (x.drop 2).take 2 = [x.getD 2 0, x.getD 3 0] := by
    apply List.ext_getElem
    · simp; omega
    intro i h1 h2
    simp at h2
    have : i = 0 ∨ i = 1 := by omega
    rcases this with rfl | rfl
    all_goals
      simp only [List.getElem_take, List.getElem_drop, List.getElem_cons_zero, List.getElem_cons_succ]
      rw [List.getD_eq_getElem?_getD, List.getElem?_eq_getElem (by omega)]
      rfl
  rw [e]
  simp [ofL, lsnZ]
set_option maxRecDepth 100000 in
set_option maxHeartbeats 2000000 in
theorem c_read (no : Int) (zs : List Int) (w : World) (hz : ∀ z ∈ zs, 0 ≤ z ∧ z < 256) (hn : zs.length ≤ 65536) (h4 : 4 ≤ zs.length) (hu : unsB zs = true) :
    Calls Tryd.prog 111 #[.int .i64 no, .string (strOfNums zs)] w fun e w' => (∃ (h' : HG), e = .returned (.tuple #[.agg #[.int .i64 h'.l, .slice h'.a h'.n h'.c], .bool (rpD no (headZ zs)).isSome]) ∧ ∃ D' : DG, OwnG w' w.heap.size w'.heap.size h' D' ∧ ∀ D, rpD no (headZ zs) = some D → D' = D) ∧ Below w.heap.size w w' := by
  have US : Hid (∀ W : World, Calls Tryd.prog 105 #[.string (strOfNums zs)] W fun e w' => e = .returned (.tuple #[.string (strOfNums (headZ zs)), .bool true]) ∧ Below W.heap.size W w') := fun W => by
    have := c_unsealS zs W hz hn h4
    rw [hu] at this
    exact this
  obtain ⟨x, hx⟩ : ∃ x, x = headZ zs := ⟨_, rfl⟩
  have hxz : ∀ z ∈ x, 0 ≤ z ∧ z < 256 := by rw [hx]; exact head_bytes hz
  have hxl : x.length ≤ 65532 := by rw [hx, headZ_len]; omega
  rw [← hx] at US ⊢
  clear hx hz hn h4 hu
  obtain ⟨V, hV⟩ : ∃ V, w.alloc (.cells #[.int .i64 0, .slice none 0 0] 87) = V := ⟨_, rfl⟩
  have HB : Hid (Below w.heap.size w V) := by unfold Hid; rw [← hV]; exact (Below.refl _ _).alloc (Nat.le_refl _) _
  have BR : Hid (Box V w.heap.size 87 #[.int .i64 0, .slice none 0 0]) := by unfold Hid; rw [← hV]; exact Box.new _ _ _
  obtain ⟨X, hX⟩ : ∃ X, X = strOfNums x := ⟨_, rfl⟩
  rw [← hX] at US
  have hXs : X.size = x.length := by rw [hX, strOfNums_size]
  have HG : Hid (∀ p (h : p < X.size), ((X[p]'h).toNat : Int) = x.getD p 0) := by
    intro p h; subst hX; exact son_get hxz h
  have HX4 : Hid (X.extract 4 X.size = strOfNums (x.drop 4)) := by unfold Hid; rw [hX, son_cut, strOfNums_size, List.take_of_length_le (by rw [List.length_drop]; omega)]
  have HX2 : Hid (X.extract 2 4 = strOfNums ((x.drop 2).take 2)) := by unfold Hid; rw [hX, son_cut]
  have HXS : Hid (X.size = x.length) := hXs
  have HZ : Hid (∀ z ∈ x, 0 ≤ z ∧ z < 256) := hxz
  have hXb : X.size ≤ 65532 := by omega
  clear hX hXs hxz
  go_enter Tryd.func111, Tryd.ntmps111
  go_wp2_with fail
  refine (US.out V).mono ?_
  rintro e w1 ⟨rfl, hb⟩
  have B1 : Hid (Below w.heap.size w w1) := HB.out.trans (hb.mono HB.out.size)
  have BR1 : Hid (Box w1 w.heap.size 87 #[.int .i64 0, .slice none 0 0]) := BR.out.belowS hb
  clear hb hV HB BR US
  obtain ⟨u0, u1⟩ := box2 BR1.out
  have t0 := BR1.out.thaw 0
  have t1 := BR1.out.thaw 1
  have q01 : w.heap.size < w1.heap.size := BR1.out.lt
  by_cases h5 : X.size < 5
  · have E : Hid (rpD no x = none) := by
      have hl := HXS.out
      by_cases h : x.length < 4
      · exact rp_lo h
      · refine rp_form ?_
        have : x.drop 4 = [] := List.eq_nil_of_length_eq_zero (by rw [List.length_drop]; omega)
        rw [this]; rfl
    go_wp2
    refine retG2 Tryd.results111 rfl rfl rfl (put2_box BR1.out _ _) ⟨?_, put2_below B1.out (Nat.le_refl _) _ _⟩
    rw [E.out]
    exact ⟨⟨0, none, 0, 0⟩, rfl, ⟨0, []⟩, own_zero _ _ _ (Nat.le_refl _), fun _ h => by cases h⟩
  have g0 : 0 < X.size := by omega
  have g1 : 1 < X.size := by omega
  obtain ⟨x0, hx0⟩ : ∃ z : Int, z = x.getD 0 0 := ⟨_, rfl⟩
  obtain ⟨x1, hx1⟩ : ∃ z : Int, z = x.getD 1 0 := ⟨_, rfl⟩
  have i0 : ∀ wx : World, (Instr.index 9 (.string X) (.int .i64 0)).run Tryd.prog wx = .ok (.int .u8 x0) wx := fun wx => by
    have := run_index_string (P := Tryd.prog) wx 9 X .i64 ((0 : Nat) : Int) Tryd.underlying9
    rw [show ((0 : Nat) : Int) = 0 from rfl] at this
    rw [this, hx0, ← HG.out 0 g0]
    simp [g0]
  have i1 : ∀ wx : World, (Instr.index 9 (.string X) (.int .i64 1)).run Tryd.prog wx = .ok (.int .u8 x1) wx := fun wx => by
    have := run_index_string (P := Tryd.prog) wx 9 X .i64 ((1 : Nat) : Int) Tryd.underlying9
    rw [show ((1 : Nat) : Int) = 1 from rfl] at this
    rw [this, hx1, ← HG.out 1 g1]
    simp
    rw [dif_pos (by omega)]
  have r1 : 0 ≤ x1 ∧ x1 < 256 := by rw [hx1, ← HG.out 1 g1]; have := (X[1]'g1).toNat_lt; omega
  have HE : Hid (x.getD 0 0 = x0 ∧ x.getD 1 0 = x1) := ⟨hx0.symm, hx1.symm⟩
  clear hx0 hx1 HG
  by_cases hm0 : x0 = 112
  case neg =>
    have E : Hid (rpD no x = none) := rp_mark (by rw [HE.out.1]; exact fun h => hm0 h.1)
    have c0 : (x0 != 112) = true := by simpa using hm0
    clear hm0
    go_wp2
    refine retG2 Tryd.results111 rfl rfl rfl (put2_box BR1.out _ _) ⟨?_, put2_below B1.out (Nat.le_refl _) _ _⟩
    rw [E.out]
    exact ⟨⟨0, none, 0, 0⟩, rfl, ⟨0, []⟩, own_zero _ _ _ (Nat.le_refl _), fun _ h => by cases h⟩
  have c0 : (x0 != 112) = false := by simp [hm0]
  by_cases hm1 : x1 = no
  case neg =>
    have E : Hid (rpD no x = none) := rp_mark (by rw [HE.out.2]; exact fun h => hm1 h.2)
    have c1 : (x1 != no) = true := by simpa using hm1
    clear hm0 hm1
    go_wp2
    refine retG2 Tryd.results111 rfl rfl rfl (put2_box BR1.out _ _) ⟨?_, put2_below B1.out (Nat.le_refl _) _ _⟩
    rw [E.out]
    exact ⟨⟨0, none, 0, 0⟩, rfl, ⟨0, []⟩, own_zero _ _ _ (Nat.le_refl _), fun _ h => by cases h⟩
  have c1 : (x1 != no) = false := by simp [hm1]
  have HM : Hid (x.getD 0 0 = 112 ∧ x.getD 1 0 = no) := by unfold Hid; rw [HE.out.1, HE.out.2]; exact ⟨hm0, hm1⟩
  clear hm0 hm1
  have RD : Hid (∀ W : World, Calls Tryd.prog 142 #[.string (X.extract 4 X.size)] W (AnsI W (x.drop 4))) := fun W => by
    rw [HX4.out]
    exact c39 (x.drop 4) W (fun z h => HZ.out z (List.mem_of_mem_drop h)) (by rw [List.length_drop]; omega)
  have OF : Hid (∀ W : World, Calls Tryd.prog 141 #[.string (X.extract 2 4)] W fun e w' => e = .returned (.int .i64 (lsnZ x)) ∧ w' = W) := fun W => by
    rw [HX2.out, ← pair_of (x := x) (by have := HXS.out; omega)]
    exact c_of ((x.drop 2).take 2) W (fun z h => HZ.out z (List.mem_of_mem_drop (List.mem_of_mem_take h))) (by rw [List.length_take]; omega)
  clear HX4 HX2
  have g4 : (4 : Int) ≤ (X.size : Int) := by omega
  have g5 : (2 : Int) ≤ (X.size : Int) := by omega
  go_wp2_with fail
  refine (RD.out w1).mono ?_
  rintro e w2 ⟨v, rfl, o2, hb⟩
  have B2 : Hid (Below w.heap.size w w2) := B1.out.trans (hb.mono B1.out.size)
  have BR2 : Hid (Box w2 w.heap.size 87 #[.int .i64 0, .slice none 0 0]) := BR1.out.belowS hb
  obtain ⟨ST, hST⟩ : ∃ l, l = (okR (x.drop 4)).getD [] := ⟨_, rfl⟩
  rw [← hST] at o2
  obtain ⟨a2, c2, rfl, l2⟩ := own_slc o2
  have O2 : Hid (w2.ownsRow w1.heap.size 9 1 (.slice a2 ST.length c2) ST.length (ST.map Value.string)) := o2
  have HST : Hid (ST = (okR (x.drop 4)).getD []) := hST
  have q12 : w1.heap.size ≤ w2.heap.size := hb.size
  clear hb o2 l2 hST B1 BR1 u0 u1 t0 t1 RD
  go_wp2_with fail
  refine (OF.out w2).mono ?_
  rintro e w3 ⟨rfl, hq⟩
  have hq' := hq.symm
  subst hq'
  clear hq OF
  obtain ⟨V3, hV3⟩ : ∃ W, w2.alloc (.cells #[.int .i64 (lsnZ x), .slice a2 ST.length c2] 87) = W := ⟨_, rfl⟩
  have hbv : Below w2.heap.size w2 V3 := by rw [← hV3]; exact (Below.refl _ _).alloc (Nat.le_refl _) _
  have B3 : Hid (Below w.heap.size w V3) := B2.out.trans (hbv.mono B2.out.size)
  have BR3 : Hid (Box V3 w.heap.size 87 #[.int .i64 0, .slice none 0 0]) := BR2.out.belowS hbv
  have BP3 : Hid (Box V3 w2.heap.size 87 #[.int .i64 (lsnZ x), .slice a2 ST.length c2]) := by unfold Hid; rw [← hV3]; exact Box.new _ _ _
  have O3 : Hid (OwnG V3 w1.heap.size w2.heap.size ⟨lsnZ x, a2, ST.length, c2⟩ ⟨lsnZ x, ST⟩) := ⟨rfl, own_below O2.out hbv, hbv.size, fun g e => O2.out.lt g (by rw [ob_slice]; exact e)⟩
  clear hbv B2 BR2 O2
  obtain ⟨p0, p1⟩ := box2 BP3.out
  obtain ⟨u0, u1⟩ := box2 BR3.out
  have t0 := BR3.out.thaw 0
  have t1 := BR3.out.thaw 1
  have l2 := BP3.out.lt
  have l3 := BR3.out.lt
  cases ho : okR (x.drop 4) with
  | none =>
    have E : Hid (rpD no x = none) := rp_form ho
    clear ho
    rw [Option.isSome_none]
    go_wp2_with fail
    go_region
    go_wp2
    refine retG2 Tryd.results111 rfl rfl rfl (put2_box (BR3.out.drewN 1) _ _) ⟨?_, put2_below (below_drewN B3.out 1) (Nat.le_refl _) _ _⟩
    rw [E.out]
    have := (show OwnG (V3.drewN 1) w1.heap.size w2.heap.size ⟨lsnZ x, a2, ST.length, c2⟩ ⟨lsnZ x, ST⟩ from O3.out).put2 (r := w.heap.size) (.inl (by omega)) (.int .i64 (lsnZ x)) (.slice a2 ST.length c2)
    exact ⟨⟨lsnZ x, a2, ST.length, c2⟩, rfl, ⟨lsnZ x, ST⟩, this.wide (B' := w.heap.size) (by omega), fun _ h => by cases h⟩
  | some l =>
    have hl : ST = l := by rw [HST.out, ho]; rfl
    subst hl
    have HO : Hid (okR (x.drop 4) = some ST) := ho
    clear ho
    rw [Option.isSome_some]
    have hfit : ST.length ≤ 100 ∧ ∀ s ∈ ST, s.size ≤ 255 := by
      have h0 := ansR0 (zs := x.drop 4) (by rw [List.length_drop]; omega) HO.out
      have := (read_write (fun z h => HZ.out z (List.mem_of_mem_drop h)) h0.1).2.2
      rw [h0.2] at this
      exact this
    have FT : Hid (FitG ⟨lsnZ x, ST⟩) := ⟨by have := hfit.1; show ST.length ≤ 1048576; omega, fun s h => by have := hfit.2 s h; omega⟩
    clear hfit
    have PK : Hid (∀ W : World, Below V3.heap.size V3 W → Calls Tryd.prog 74 #[.agg #[.int .i64 (lsnZ x), .slice a2 ST.length c2]] W fun e w' => e = .returned (.bool (okG ⟨lsnZ x, ST⟩)) ∧ Below W.heap.size W w') := fun W hW => c_specOK ⟨lsnZ x, a2, ST.length, c2⟩ ⟨lsnZ x, ST⟩ W (O3.out.rd.below hW) FT.out
    go_wp2_with fail
    go_region_with (first
      | (go_at_call 74; refine (PK.out _ (by first | exact (Below.refl _ _).drew | exact Below.refl _ _)).mono ?_; rintro e w4 ⟨rfl, hb4⟩
         have BR4 : Hid (Box w4 w.heap.size 87 #[.int .i64 0, .slice none 0 0]) := (hb4.block w.heap.size l3).trans BR3.out
         obtain ⟨y0, y1⟩ := box2 BR4.out
         have s0 := BR4.out.thaw 0
         have s1 := BR4.out.thaw 1
         have BP4 : Hid (Box w4 w2.heap.size 87 #[.int .i64 (lsnZ x), .slice a2 ST.length c2]) := (hb4.block w2.heap.size l2).trans BP3.out
         obtain ⟨z0, z1⟩ := box2 BP4.out))
    all_goals
      have B4 : Hid (Below w.heap.size w w4) := B3.out.drew.trans (hb4.mono B3.out.size)
      have O4 : Hid (OwnG w4 w1.heap.size w2.heap.size ⟨lsnZ x, a2, ST.length, c2⟩ ⟨lsnZ x, ST⟩) := O3.out.same hb4.size (fun g _ h2 => hb4.block g (Nat.lt_trans h2 l2))
      have ES : Hid ((rpD no x).isSome = okG ⟨lsnZ x, ST⟩ ∧ ∀ D, rpD no x = some D → (⟨lsnZ x, ST⟩ : DG) = D) := by
        cases hg : okG ⟨lsnZ x, ST⟩
        · have := rp_bad (no := no) HO.out hg
          rw [this]
          exact ⟨rfl, fun _ h => by cases h⟩
        · have := rp_yes (no := no) (by have := HXS.out; omega) HM.out HO.out hg
          rw [this]
          exact ⟨rfl, fun D h => by cases h; rfl⟩
      clear p0 p1 u0 u1 t0 t1 hb4 PK B3 BR3 BP3 O3 hV3
      go_wp2
      refine retG2 Tryd.results111 rfl rfl rfl (put2_box BR4.out _ _) ⟨?_, put2_below B4.out (Nat.le_refl _) _ _⟩
      rw [ES.out.1]
      have := O4.out.put2 (r := w.heap.size) (.inl (by omega)) (.int .i64 (lsnZ x)) (.slice a2 ST.length c2)
      exact ⟨⟨lsnZ x, a2, ST.length, c2⟩, rfl, ⟨lsnZ x, ST⟩, this.wide (B' := w.heap.size) (by omega), ES.out.2⟩

end Go.Proofs.YtpomedfofnceeaaDoor.G
namespace Go.Proofs.YtpomedfofnceeaaDoor
open Go Go.RowKit
attribute [local go_sem ↓] Go.wp_at_zero Go.wp_at_succ

def rdO (no : Int) (s : ByteArray) : Option G.DG := if unsB (numsT s) then G.rpD no (headZ (numsT s)) else none
theorem pg_rd {no : Int} {s : ByteArray} (h : s.toList.isEmpty = false) : pgO no s = rdO no s := by unfold pgO rdO; rw [h]; rfl
set_option maxRecDepth 100000 in
set_option maxHeartbeats 4000000 in
theorem c_l03R (no : Int) (s : ByteArray) (w : World) (hs : s.size ≤ 65536) :
    Calls Tryd.prog 111 #[.int .i64 no, .string s] w fun e w' => (∃ h' : G.HG, e = .returned (.tuple #[.agg #[.int .i64 h'.l, .slice h'.a h'.n h'.c], .bool (rdO no s).isSome]) ∧ ∀ P, rdO no s = some P → h'.l = P.L) ∧ Below w.heap.size w w' := by
  have hl : (numsT s).length = s.size := nums_len s
  cases hu : unsB (numsT s)
  · have E : Hid (rdO no s = none) := by unfold Hid rdO; rw [hu]; rfl
    obtain ⟨V, hV⟩ : ∃ V, w.alloc (.cells #[.int .i64 0, .slice none 0 0] 87) = V := ⟨_, rfl⟩
    have HB : Hid (Below w.heap.size w V) := by unfold Hid; rw [← hV]; exact (Below.refl _ _).alloc (Nat.le_refl _) _
    have BR : Hid (Box V w.heap.size 87 #[.int .i64 0, .slice none 0 0]) := by unfold Hid; rw [← hV]; exact Box.new _ _ _
    obtain ⟨T, US⟩ : ∃ T, Calls Tryd.prog 105 #[.string s] V fun e w' => e = .returned (.tuple #[.string T, .bool false]) ∧ Below V.heap.size V w' := by
      by_cases h4 : s.size < 4
      · refine ⟨⟨#[]⟩, ?_⟩
        have := c_unsealS_lo (numsT s) V (by omega)
        rw [nums_get] at this
        exact this.mono fun e w' ⟨he, q, hq⟩ => ⟨he, by rw [hq]; exact below_drewN (Below.refl _ _) q⟩
      · refine ⟨unsT (numsT s) false, ?_⟩
        have := c_unsealS (numsT s) V (nums_bytes s) (by omega) (by omega)
        rw [nums_get, hu] at this
        exact this
    clear hu hl hs
    go_enter Tryd.func111, Tryd.ntmps111
    go_wp2_with fail
    refine US.mono ?_
    rintro e' w1 ⟨rfl, hb⟩
    have B1 : Hid (Below w.heap.size w w1) := HB.out.trans (hb.mono HB.out.size)
    have BR1 : Hid (Box w1 w.heap.size 87 #[.int .i64 0, .slice none 0 0]) := BR.out.belowS hb
    clear hb hV HB BR US
    obtain ⟨u0, u1⟩ := G.box2 BR1.out
    have t0 := BR1.out.thaw 0
    have t1 := BR1.out.thaw 1
    go_wp2
    refine G.retG2 Tryd.results111 rfl rfl rfl (G.put2_box BR1.out _ _) ⟨?_, G.put2_below B1.out (Nat.le_refl _) _ _⟩
    rw [E.out]
    exact ⟨⟨0, none, 0, 0⟩, rfl, fun _ h => by cases h⟩
  · have h4 : 4 ≤ s.size := by
      rcases Nat.lt_or_ge s.size 4 with h | h
      · rw [uns_lo (by rw [nums_len]; exact h)] at hu; cases hu
      · exact h
    have E : rdO no s = G.rpD no (headZ (numsT s)) := by unfold rdO; rw [hu]; rfl
    have := G.c_read no (numsT s) w (nums_bytes s) (by omega) (by omega) hu
    rw [nums_get] at this
    rw [E]
    exact this.mono fun e w' ⟨⟨h', he, D', o, hD⟩, hb⟩ => ⟨⟨h', he, fun P hP => by rw [o.1, hD P hP]⟩, hb⟩
set_option maxRecDepth 100000 in
set_option maxHeartbeats 4000000 in
theorem c_l05Page (h : HD) (D : DD) (p : Nat) (w : World) (r : RdD w h D) (hok : okD D = true) (hp : 1 + p < h.n0) :
    Calls Tryd.prog 76 #[.agg #[.slice h.a0 h.n0 h.c0, .slice h.a1 h.n1 h.c1, .bool h.b, .slice h.a2 h.n2 h.c2], .int .i64 (p : Int)] w fun e w' => (∃ h' : G.HG, e = .returned (.tuple #[.agg #[.int .i64 h'.l, .slice h'.a h'.n h'.c], .bool (pgO p (rdS D.S D.C (1 + p))).isSome]) ∧ ∀ P, pgO p (rdS D.S D.C (1 + p)) = some P → h'.l = P.L) ∧ Below w.heap.size w w' := by
  have hn0 : h.n0 ≤ 100 := by have := (ok_parts hok).1.1; have := r.l0; omega
  have hn1 : h.n1 ≤ 500 := by have := (ok_parts hok).1.2; have := r.l1; omega
  obtain ⟨V, hV⟩ : ∃ V, (w.alloc (.cells #[.slice h.a0 h.n0 h.c0, .slice h.a1 h.n1 h.c1, .bool h.b, .slice h.a2 h.n2 h.c2] 26)).alloc (.cells #[.int .i64 0, .slice none 0 0] 87) = V := ⟨_, rfl⟩
  have HB : Hid (Below w.heap.size w V) := by unfold Hid; rw [← hV]; exact ((Below.refl _ _).alloc (Nat.le_refl _) _).alloc (by simp) _
  have X : Hid (Box V w.heap.size 26 #[.slice h.a0 h.n0 h.c0, .slice h.a1 h.n1 h.c1, .bool h.b, .slice h.a2 h.n2 h.c2]) := by unfold Hid; rw [← hV]; exact (Box.new _ _ _).alloc _
  have Y : Hid (Box V (w.heap.size + 1) 87 #[.int .i64 0, .slice none 0 0]) := by
    unfold Hid; rw [← hV]
    have := Box.new (w.alloc (.cells #[.slice h.a0 h.n0 h.c0, .slice h.a1 h.n1 h.c1, .bool h.b, .slice h.a2 h.n2 h.c2] 26)) #[.int .i64 0, .slice none 0 0] 87
    rwa [World.size_alloc] at this
  obtain ⟨s, hs⟩ : ∃ s, s = rdS D.S D.C (1 + p) := ⟨_, rfl⟩
  have hsz : s.size ≤ 160 := by rw [hs]; exact rdS_size (ok_parts hok).2.1 (ok_parts hok).2.2
  have RS := c_l02Read h.a0 h.n0 h.c0 h.a1 h.n1 h.c1 h.b h.a2 h.n2 h.c2 D.S D.C (1 + p) V (r.2.1.below HB.out) (r.2.2.1.below HB.out) hp (by omega) (by omega)
  rw [← hs] at RS ⊢
  have RSx : Hid (∀ x : Int, x = 1 + (p : Int) → Calls Tryd.prog 127 #[.agg #[.slice h.a0 h.n0 h.c0, .slice h.a1 h.n1 h.c1, .bool h.b, .slice h.a2 h.n2 h.c2], .int .i64 x] V fun e W' => e = .returned (.string s) ∧ Below V.heap.size V W') := fun x hx => by
    rw [hx, show (1 + (p : Int)) = ((1 + p : Nat) : Int) by omega]; exact RS
  clear RS hs r hok
  obtain ⟨x0, x1, x2, x3⟩ := box4 X.out
  go_enter Tryd.func76, Tryd.ntmps76
  go_wp2_with fail
  refine (RSx.out _ (by omega)).mono ?_
  rintro e w1 ⟨rfl, hb1⟩
  have B1 : Hid (Below w.heap.size w w1) := HB.out.trans (hb1.mono HB.out.size)
  have Y1 : Hid (Box w1 (w.heap.size + 1) 87 #[.int .i64 0, .slice none 0 0]) := Y.out.belowS hb1
  clear hb1 HB X Y hV RSx x0 x1 x2 x3
  cases he : s.toList.isEmpty
  · have HP : Hid (pgO p s = rdO p s) := pg_rd he
    have hne : (s.toList == []) = false := by cases hh : s.toList with | nil => rw [hh] at he; cases he | cons _ _ => rfl
    go_wp2_with fail
    refine (c_l03R p s w1 (by omega)).mono ?_
    rintro e w2 ⟨⟨h2, rfl, hP2⟩, hb2⟩
    have HP2 : Hid (∀ P, rdO p s = some P → h2.l = P.L) := hP2
    have B2 : Hid (Below w.heap.size w w2) := B1.out.trans (hb2.mono B1.out.size)
    have Y2 : Hid (Box w2 (w.heap.size + 1) 87 #[.int .i64 0, .slice none 0 0]) := Y1.out.belowS hb2
    clear hb2 hP2 B1 Y1
    obtain ⟨u0, u1⟩ := G.box2 Y2.out
    have t0 := Y2.out.thaw 0
    have t1 := Y2.out.thaw 1
    go_wp2
    refine G.retG2 Tryd.results76 rfl rfl rfl (G.put2_box Y2.out _ _) ⟨⟨h2, by rw [HP.out]; rfl, fun P hP => HP2.out P (by rw [← HP.out]; exact hP)⟩, G.put2_below B2.out (by omega) _ _⟩
  · have HP : Hid (pgO p s = some G.newG) := pg_new he
    have hse : s.toList = [] := List.isEmpty_iff.1 he
    clear he
    go_wp2_with fail
    refine (G.c_specNew w1).mono ?_
    rintro e w2 ⟨⟨h2, rfl, o2⟩, hb2⟩
    have HL2 : Hid (h2.l = G.newG.L) := o2.1
    have B2 : Hid (Below w.heap.size w w2) := B1.out.trans (hb2.mono B1.out.size)
    have Y2 : Hid (Box w2 (w.heap.size + 1) 87 #[.int .i64 0, .slice none 0 0]) := Y1.out.belowS hb2
    clear hb2 o2 B1 Y1
    obtain ⟨u0, u1⟩ := G.box2 Y2.out
    have t0 := Y2.out.thaw 0
    have t1 := Y2.out.thaw 1
    go_wp2
    refine G.retG2 Tryd.results76 rfl rfl rfl (G.put2_box Y2.out _ _) ⟨⟨h2, by rw [HP.out]; rfl, fun P hP => by rw [HP.out] at hP; cases hP; exact HL2.out⟩, G.put2_below B2.out (by omega) _ _⟩

end Go.Proofs.YtpomedfofnceeaaDoor
namespace Go.Proofs.YtpomedfofnceeaaDoor
open Go Go.RowKit
attribute [local go_sem ↓] Go.wp_at_zero Go.wp_at_succ

/-- The worlds that a world grows into. -/
structure Out (w : World) where
  y : World
  p : Below w.heap.size w y
theorem Out.some (w : World) : Nonempty (Out w) := ⟨⟨w, Below.refl _ _⟩⟩
theorem q_begin {P : Program} {id : Nat} {Q : Exit → Act → World → Prop} {a : Act} {w : World} {l : List Oper} (hm : P.follows .mixedOrders = true) (hB : Region.lexB .any l.toArray = true) (h : wpQuiet P l.toArray (fun x => ∃ q : Out w, x = q.y) (fun a' => ∀ w', (∃ q : Out w, w' = q.y) → Q .normal a' w') l a) : (Code.region id l.toArray true).wp P Q a w :=
  wp_region_quiet (C := fun x => ∃ q : Out w, x = q.y) hm hB ⟨⟨_, (Below.refl _ _).drew⟩, rfl⟩ (by rw [show l.toArray.toList = l by simp]; exact h)
theorem q_call {P : Program} {w : World} {q : Out w} {f : FuncId} {args : Array Value} {v : Value} (h : Calls P f args q.y fun e y => e = .returned v ∧ Below q.y.heap.size q.y y) : Calls P f args q.y fun e y => e = .returned v ∧ ∃ q' : Out w, y = q'.y :=
  h.mono fun _ y hy => ⟨hy.1, ⟨y, q.p.trans (hy.2.mono q.p.size)⟩, rfl⟩
theorem q_same {P : Program} {w : World} {q : Out w} {f : FuncId} {args : Array Value} {v : Value} (h : Calls P f args q.y fun e y => e = .returned v ∧ y = q.y) : Calls P f args q.y fun e y => e = .returned v ∧ ∃ q' : Out w, y = q'.y :=
  h.mono fun _ _ hy => ⟨hy.1, q, hy.2⟩
theorem q_cell {w : World} {b o : Nat} {u : Value} (h : w.cell? ⟨b, o, none⟩ = some u) (q : Out w) : q.y.cell? ⟨b, o, none⟩ = some u := far6 q.p h

end Go.Proofs.YtpomedfofnceeaaDoor
namespace Go.Proofs.YtpomedfofnceeaaDoor
open Go Go.RowKit
attribute [local go_sem ↓] Go.wp_at_zero Go.wp_at_succ

/-- Where a page's first frame stands. -/
def ixF (no : Int) : Nat → List FF → Int
  | _, [] => -1
  | i, f :: fs => if f.no = no then (i : Int) else ixF no (i + 1) fs
theorem ixF_at {no : Int} {fs : List FF} {k : Nat} (h : k < fs.length) : ixF no k (fs.drop k) = if (fs.getD k zeroF).no = no then (k : Int) else ixF no (k + 1) (fs.drop (k + 1)) := by
  rw [List.drop_eq_getElem_cons h, List.getD_eq_getElem?_getD, List.getElem?_eq_getElem h]
  rfl
theorem ixF_skip (no : Int) : ∀ (A B : List FF) (i : Nat), (∀ f ∈ A, f.no ≠ no) → ixF no i (A ++ B) = ixF no (i + A.length) B
  | [], B, i, _ => by simp
  | a :: A, B, i, h => by
    show (if a.no = no then (i : Int) else ixF no (i + 1) (A ++ B)) = _
    rw [if_neg (h a (by simp)), ixF_skip no A B (i + 1) (fun f hf => h f (by simp [hf])), List.length_cons]
    congr 1
    omega
theorem ixF_lt (no : Int) : ∀ (A B : List FF) (i : Nat), (∃ f ∈ A, f.no = no) → ixF no i (A ++ B) < (i : Int) + A.length
  | [], B, i, h => by obtain ⟨f, hf, _⟩ := h; cases hf
  | a :: A, B, i, h => by
    show (if a.no = no then (i : Int) else ixF no (i + 1) (A ++ B)) < _
    by_cases e : a.no = no
    · rw [if_pos e, List.length_cons]; omega
    · rw [if_neg e]
      have := ixF_lt no A B (i + 1) (by
        obtain ⟨f, hf, hn⟩ := h
        rcases List.mem_cons.1 hf with rfl | hf
        · exact absurd hn e
        · exact ⟨f, hf, hn⟩)
      rw [List.length_cons]
      omega
theorem ixF_here {no : Int} {F : List FF} {k : Nat} (hk : k < F.length) (hn : (F.getD k zeroF).no = no) (h : ¬ ∃ f ∈ F.take k, f.no = no) : ixF no 0 F = k := by
  have e := ixF_skip no (F.take k) (F.drop k) 0 (fun f hf hn => h ⟨f, hf, hn⟩)
  rw [List.take_append_drop, List.length_take, Nat.min_eq_left (by omega), Nat.zero_add, ixF_at hk, if_pos hn] at e
  exact e
theorem ixF_not {no : Int} {F : List FF} {k : Nat} (hk : k < F.length) (h : ∃ f ∈ F.take k, f.no = no) : ixF no 0 F < k := by
  have e := ixF_lt no (F.take k) (F.drop k) 0 h
  rw [List.take_append_drop, List.length_take, Nat.min_eq_left (by omega)] at e
  simpa using e
theorem take_ex {no : Int} {F : List FF} {k : Nat} (hk : k < F.length) : (∃ f ∈ F.take (k + 1), f.no = no) ↔ (F.getD k zeroF).no = no ∨ ∃ f ∈ F.take k, f.no = no := by
  rw [List.take_add_one, List.getD_eq_getElem?_getD, List.getElem?_eq_getElem hk]
  constructor
  · rintro ⟨f, hf, hn⟩
    rcases List.mem_append.1 hf with hf | hf
    · exact .inr ⟨f, hf, hn⟩
    · simp at hf; subst hf; exact .inl hn
  · rintro (hn | ⟨f, hf, hn⟩)
    · exact ⟨F[k], List.mem_append.2 (.inr (by simp)), hn⟩
    · exact ⟨f, List.mem_append.2 (.inl hf), hn⟩
theorem okLS_e {D : DR} (h : okLS D = true) : 1 ≤ D.e := by
  obtain ⟨ve, vl, vt, vk, vp, vn, vg, vz, vb, va⟩ := D
  by_cases hc : 1 ≤ ve
  · exact hc
  · have := ls_f1 (e := ve) (l := vl) (t := vt) (k := vk) (p := vp) (n := vn) (g := vg) (s := vz) (b := vb) (a := va) (fun q => hc q.1.1)
    rw [h] at this
    cases this
set_option maxRecDepth 100000 in
set_option maxHeartbeats 8000000 in
theorem c_l05Fr (h : HD) (ep : Int) (la : Option Addr) (ln lc : Nat) (su : Int) (fa : Option Addr) (fn fc : Nat) (ha : Int) (F : List FF) (no : Int) (w : World) (rf : RdF w fa fn F) (hfn : fn ≤ 1048576) :
    Calls Tryd.prog 75 #[.agg #[.slice h.a0 h.n0 h.c0, .slice h.a1 h.n1 h.c1, .bool h.b, .slice h.a2 h.n2 h.c2, .int .i64 ep, .slice la ln lc, .int .i64 su, .slice fa fn fc, .int .i64 ha], .int .i64 no] w fun e w' => e = .returned (.int .i64 (ixF no 0 F)) ∧ Below w.heap.size w w' := by
  obtain ⟨hl, hcs, _⟩ := rf
  obtain ⟨V, hV⟩ : ∃ V, w.alloc (.cells #[.slice h.a0 h.n0 h.c0, .slice h.a1 h.n1 h.c1, .bool h.b, .slice h.a2 h.n2 h.c2, .int .i64 ep, .slice la ln lc, .int .i64 su, .slice fa fn fc, .int .i64 ha] 30) = V := ⟨_, rfl⟩
  have B0 : Hid (Below w.heap.size w V) := by unfold Hid; rw [← hV]; exact (Below.refl _ _).alloc (Nat.le_refl _) _
  have X0 : Hid (Box V w.heap.size 30 #[.slice h.a0 h.n0 h.c0, .slice h.a1 h.n1 h.c1, .bool h.b, .slice h.a2 h.n2 h.c2, .int .i64 ep, .slice la ln lc, .int .i64 su, .slice fa fn fc, .int .i64 ha]) := by unfold Hid; rw [← hV]; exact Box.new _ _ _
  go_enter Tryd.func75, Tryd.ntmps75
  go_wp2
  go_loopw [5] (fun i wr => ∃ k : Nat, k ≤ fn ∧ i = .int .i64 k ∧ Hid (ixF no k (F.drop k) = ixF no 0 F) ∧ wr = V) (fun i _ => fn - (intOf i).toNat)
  case atStart => exact ⟨0, by omega, rfl, rfl, by first | rfl | trivial | exact hV⟩
  case round =>
    obtain ⟨k, hk, rfl, HI, rfl⟩ := hrel
    obtain ⟨x0, x1, x2, x3, x4, x5, x6, x7, x8⟩ := box9 X0.out
    by_cases hlt : k < fn
    · obtain ⟨b, off, rfl, hbl, hc⟩ := hcs (by omega)
      have d0 := (hc k hlt).1
      have HA := ixF_at (no := no) (fs := F) (k := k) (by omega)
      obtain ⟨f, hv⟩ : ∃ v, v = F.getD k zeroF := ⟨_, rfl⟩
      rw [← hv] at d0 HA
      obtain ⟨q, hq⟩ : ∃ q, q = f.no := ⟨_, rfl⟩
      rw [← hq] at d0 HA
      have e0 := (B0.out.cell (p := ⟨b, off + k * 5, none⟩) hbl).trans d0
      have HA' : Hid (_ = _) := HA
      clear hc hcs hv HA d0 hq hV
      by_cases hn : q = no
      · have E : Hid (ixF no 0 F = (k : Int)) := by unfold Hid; rw [← HI.out, HA'.out, if_pos hn]
        subst hn
        go_wp2
        go_ret
        exact ⟨ret_int E.out.symm, B0.out⟩
      · have E : Hid (ixF no (k + 1) (F.drop (k + 1)) = ixF no 0 F) := by unfold Hid; rw [← HI.out, HA'.out, if_neg hn]
        go_wp2
        go_roundw
        case rel => exact ⟨k + 1, by omega, by go_num, E, by first | rfl | trivial⟩
        case measure => simp [intOf]; omega
    · have e : k = fn := by omega
      subst e
      have E : Hid (ixF no 0 F = -1) := by unfold Hid; rw [← HI.out, List.drop_eq_nil_of_le (by omega)]; rfl
      go_wp2
      go_ret
      exact ⟨ret_int E.out.symm, B0.out⟩
theorem okST_rest {D : DD} {n0 : Nat} {ep : Int} {ln : Nat} {L : List DR} {su : Int} {fn : Nat} {F : List FF} {ha : Int} (h0 : okD D = true) (h1 : n0 = 69) (h2 : inB ep 1 60 = true) (h3 : ln ≤ 60) (h4 : inB su 0 (ln : Int) = true) (h5 : fn ≤ 3) (h6 : inB ha 0 2 = true) : okST D n0 ep ln L su fn F ha = ((inPl 0 L && ofEp ep 0 L) && (arF (ln : Int) [] F && hasPg (rdS D.S D.C) su)) := by
  have a2 := of_decide_eq_true h2
  have a4 := of_decide_eq_true h4
  have a6 := of_decide_eq_true h6
  unfold okST
  rw [h0, decide_eq_true h1, decide_eq_true a2.1, decide_eq_true a2.2, decide_eq_true h3, decide_eq_true a4.1, decide_eq_true a4.2, decide_eq_true h5, decide_eq_true a6.1, decide_eq_true (show ha < 3 by omega)]
  simp only [Bool.true_and, Bool.and_assoc]
theorem okST_no {D : DD} {n0 : Nat} {ep : Int} {ln : Nat} {L : List DR} {su : Int} {fn : Nat} {F : List FF} {ha : Int} (h : okD D = false ∨ ¬ n0 = 69 ∨ inB ep 1 60 = false ∨ ¬ ln ≤ 60 ∨ inB su 0 (ln : Int) = false ∨ ¬ fn ≤ 3 ∨ inB ha 0 2 = false) : okST D n0 ep ln L su fn F ha = false := by
  cases hs : okST D n0 ep ln L su fn F ha
  · rfl
  exfalso
  unfold okST at hs
  simp only [Bool.and_eq_true, decide_eq_true_eq] at hs
  obtain ⟨p0, p1, p2, p3, p4, p5, p6, p7, p8, ⟨p9, p10⟩, p11, p12, p13⟩ := hs
  rcases h with h | h | h | h | h | h | h
  · rw [p0] at h; cases h
  · exact h p1
  · rw [inB, decide_eq_false_iff_not] at h; exact h ⟨p2, p3⟩
  · exact h p4
  · rw [inB, decide_eq_false_iff_not] at h; exact h ⟨p7, p8⟩
  · exact h p9
  · rw [inB, decide_eq_false_iff_not] at h; exact h ⟨p11, by omega⟩
theorem okFr_bad {no : Int} {D : G.DG} {d : Bool} {fi last : Int} (h : inB no 0 7 = false ∨ G.okG D = false ∨ ¬ D.L ≤ last ∨ inB fi 0 last = false ∨ ¬ d = decide (0 < fi)) : okFr no D d fi last = false := by
  cases hs : okFr no D d fi last
  · rfl
  exfalso
  unfold okFr at hs
  simp only [Bool.and_eq_true, decide_eq_true_eq, beq_iff_eq] at hs
  obtain ⟨p0, p1, p2, p3, p4, p5⟩ := hs
  rcases h with h | h | h | h | h
  · rw [inB, decide_eq_false_iff_not] at h; exact h ⟨p0.1, by omega⟩
  · rw [p1] at h; cases h
  · exact h p2
  · rw [inB, decide_eq_false_iff_not] at h; exact h ⟨p3, p4⟩
  · exact h p5
theorem okFr_good {no : Int} {D : G.DG} {d : Bool} {fi last : Int} (h0 : inB no 0 7 = true) (h1 : G.okG D = true) (h2 : D.L ≤ last) (h3 : inB fi 0 last = true) (h4 : d = decide (0 < fi)) : okFr no D d fi last = true := by
  have a0 := of_decide_eq_true h0
  have a3 := of_decide_eq_true h3
  unfold okFr
  rw [decide_eq_true (show 0 ≤ no ∧ no < 8 by omega), h1, decide_eq_true h2, decide_eq_true a3.1, decide_eq_true a3.2, h4]
  simp
set_option maxRecDepth 100000 in
set_option maxHeartbeats 8000000 in
theorem c_specST (h : HD) (ep : Int) (la : Option Addr) (ln lc : Nat) (su : Int) (fa : Option Addr) (fn fc : Nat) (ha : Int) (D : DD) (L : List DR) (F : List FF) (w : World) (r : RdD w h D) (hf : Fit D) (rl : RdQ w la ln L) (hln : ln ≤ 1048576) (hls : ∀ v ∈ L, v.b.size ≤ 1048576 ∧ v.a.size ≤ 1048576) (rf : RdF w fa fn F) (hfn : fn ≤ 1048576) (hfs : ∀ i, i < fn → G.FitG (F.getD i zeroF).D) :
    Calls Tryd.prog 23 #[.agg #[.slice h.a0 h.n0 h.c0, .slice h.a1 h.n1 h.c1, .bool h.b, .slice h.a2 h.n2 h.c2, .int .i64 ep, .slice la ln lc, .int .i64 su, .slice fa fn fc, .int .i64 ha]] w fun e w' => e = .returned (.bool (okST D h.n0 ep ln L su fn F ha)) ∧ Below w.heap.size w w' := by
  obtain ⟨V, hV⟩ : ∃ V, w.alloc (.cells #[.slice h.a0 h.n0 h.c0, .slice h.a1 h.n1 h.c1, .bool h.b, .slice h.a2 h.n2 h.c2, .int .i64 ep, .slice la ln lc, .int .i64 su, .slice fa fn fc, .int .i64 ha] 30) = V := ⟨_, rfl⟩
  have B0 : Hid (Below w.heap.size w V) := by unfold Hid; rw [← hV]; exact (Below.refl _ _).alloc (Nat.le_refl _) _
  have X0 : Hid (Box V w.heap.size 30 #[.slice h.a0 h.n0 h.c0, .slice h.a1 h.n1 h.c1, .bool h.b, .slice h.a2 h.n2 h.c2, .int .i64 ep, .slice la ln lc, .int .i64 su, .slice fa fn fc, .int .i64 ha]) := by unfold Hid; rw [← hV]; exact Box.new _ _ _
  have C1 : Hid (∀ W, Below w.heap.size w W → Calls Tryd.prog 71 #[.agg #[.slice h.a0 h.n0 h.c0, .slice h.a1 h.n1 h.c1, .bool h.b, .slice h.a2 h.n2 h.c2]] W fun e w' => e = .returned (.bool (okD D)) ∧ Below W.heap.size W w') := fun W hW => c_specOK h D W (r.below hW) hf
  have C4 : Hid (∀ no W, Below w.heap.size w W → Calls Tryd.prog 75 #[.agg #[.slice h.a0 h.n0 h.c0, .slice h.a1 h.n1 h.c1, .bool h.b, .slice h.a2 h.n2 h.c2, .int .i64 ep, .slice la ln lc, .int .i64 su, .slice fa fn fc, .int .i64 ha], .int .i64 no] W fun e w' => e = .returned (.int .i64 (ixF no 0 F)) ∧ Below W.heap.size W w') := fun no W hW => c_l05Fr h ep la ln lc su fa fn fc ha F no W (rf.below hW) hfn
  have C5 : Hid (okD D = true → h.n0 = 69 → ∀ (p : Nat), p < 8 → ∀ W, Below w.heap.size w W → Calls Tryd.prog 76 #[.agg #[.slice h.a0 h.n0 h.c0, .slice h.a1 h.n1 h.c1, .bool h.b, .slice h.a2 h.n2 h.c2], .int .i64 (p : Int)] W fun e w' => (∃ h' : G.HG, e = .returned (.tuple #[.agg #[.int .i64 h'.l, .slice h'.a h'.n h'.c], .bool (pgO p (rdS D.S D.C (1 + p))).isSome]) ∧ ∀ P, pgO p (rdS D.S D.C (1 + p)) = some P → h'.l = P.L) ∧ Below W.heap.size W w') := fun hok h69 p hp W hW => c_l05Page h D p W (r.below hW) hok (by omega)
  have RF : Hid (RdF w fa fn F) := rf
  have RL : Hid (RdQ w la ln L) := rl
  have HLS : Hid (∀ v ∈ L, v.b.size ≤ 1048576 ∧ v.a.size ≤ 1048576) := hls
  have HFS : Hid (∀ i, i < fn → G.FitG (F.getD i zeroF).D) := hfs
  clear r hf rl hls rf hfs
  obtain ⟨x0, x1, x2, x3, x4, x5, x6, x7, x8⟩ := box9 X0.out
  go_enter Tryd.func23, Tryd.ntmps23
  go_wp2_with fail
  refine (C1.out V B0.out).mono ?_
  rintro e w1 ⟨rfl, hb⟩
  have B1 : Hid (Below w.heap.size w w1) := B0.out.trans (hb.mono B0.out.size)
  have X1 : Hid (Box w1 w.heap.size 30 #[.slice h.a0 h.n0 h.c0, .slice h.a1 h.n1 h.c1, .bool h.b, .slice h.a2 h.n2 h.c2, .int .i64 ep, .slice la ln lc, .int .i64 su, .slice fa fn fc, .int .i64 ha]) := X0.out.belowS hb
  clear hb X0 B0 C1 hV x0 x1 x2 x3 x4 x5 x6 x7 x8
  obtain ⟨x0, x1, x2, x3, x4, x5, x6, x7, x8⟩ := box9 X1.out
  cases hok : okD D
  case false =>
    have E : Hid (okST D h.n0 ep ln L su fn F ha = false) := okST_no (.inl hok)
    clear hok
    go_wp2
    go_ret
    exact ⟨ret_bool E.out.symm, B1.out⟩
  have KOK : Hid (okD D = true) := hok
  clear hok
  by_cases h69 : h.n0 = 69
  case neg =>
    have E : Hid (okST D h.n0 ep ln L su fn F ha = false) := okST_no (.inr (.inl h69))
    have c1 : ((h.n0 : Int) != 69) = true := by simp; omega
    clear h69
    go_wp2
    go_ret
    exact ⟨ret_bool E.out.symm, B1.out⟩
  have c1 : ((h.n0 : Int) != 69) = false := by simp; omega
  have H69 : Hid (h.n0 = 69) := h69
  clear h69
  go_wp2_with fail
  refine (c_in ep 1 60 w1).mono ?_
  rintro e w' ⟨rfl, hw⟩
  have hw' := hw.symm
  subst hw'
  clear hw
  cases hep : inB ep 1 60
  case false =>
    have E : Hid (okST D h.n0 ep ln L su fn F ha = false) := okST_no (.inr (.inr (.inl hep)))
    clear hep
    go_wp2
    go_ret
    exact ⟨ret_bool E.out.symm, B1.out⟩
  have Khep : Hid (inB ep 1 60 = true) := hep
  clear hep
  by_cases hl6 : ln ≤ 60
  case neg =>
    have E : Hid (okST D h.n0 ep ln L su fn F ha = false) := okST_no (.inr (.inr (.inr (.inl hl6))))
    go_wp2
    go_ret
    exact ⟨ret_bool E.out.symm, B1.out⟩
  go_wp2_with fail
  refine (c_in su 0 (ln : Int) w1).mono ?_
  rintro e w' ⟨rfl, hw⟩
  have hw' := hw.symm
  subst hw'
  clear hw
  cases hsu : inB su 0 (ln : Int)
  case false =>
    have E : Hid (okST D h.n0 ep ln L su fn F ha = false) := okST_no (.inr (.inr (.inr (.inr (.inl hsu)))))
    clear hsu
    go_wp2
    go_ret
    exact ⟨ret_bool E.out.symm, B1.out⟩
  have Khsu : Hid (inB su 0 (ln : Int) = true) := hsu
  clear hsu
  by_cases hf3 : fn ≤ 3
  case neg =>
    have E : Hid (okST D h.n0 ep ln L su fn F ha = false) := okST_no (.inr (.inr (.inr (.inr (.inr (.inl hf3))))))
    go_wp2
    go_ret
    exact ⟨ret_bool E.out.symm, B1.out⟩
  go_wp2_with fail
  refine (c_in ha 0 2 w1).mono ?_
  rintro e w' ⟨rfl, hw⟩
  have hw' := hw.symm
  subst hw'
  clear hw
  cases hha : inB ha 0 2
  case false =>
    have E : Hid (okST D h.n0 ep ln L su fn F ha = false) := okST_no (.inr (.inr (.inr (.inr (.inr (.inr (hha)))))))
    clear hha
    go_wp2
    go_ret
    exact ⟨ret_bool E.out.symm, B1.out⟩
  have Khha : Hid (inB ha 0 2 = true) := hha
  clear hha
  have E0 : Hid (okST D h.n0 ep ln L su fn F ha = ((inPl 0 L && ofEp ep 0 L) && (arF (ln : Int) [] F && hasPg (rdS D.S D.C) su))) := okST_rest KOK.out H69.out Khep.out hl6 Khsu.out hf3 Khha.out
  clear Khep Khsu Khha c1 x0 x1 x2 x3 x4 x5 x6 x7 x8
  go_wp2
  go_loopw [3] (fun i wr => ∃ (k : Nat) (q : Int), k ≤ ln ∧ i = .int .i64 k ∧ Hid ((k = 0 → q = 0) ∧ (0 < k → q = (L.getD (k - 1) zeroR).e)) ∧ Hid ((inPl k (L.drop k) && ofEp ep q (L.drop k)) = (inPl 0 L && ofEp ep 0 L)) ∧ Hid (Box wr w.heap.size 30 #[.slice h.a0 h.n0 h.c0, .slice h.a1 h.n1 h.c1, .bool h.b, .slice h.a2 h.n2 h.c2, .int .i64 ep, .slice la ln lc, .int .i64 su, .slice fa fn fc, .int .i64 ha]) ∧ Hid (Below w.heap.size w wr)) (fun i _ => ln - (intOf i).toNat)
  case atStart => exact ⟨0, 0, by omega, rfl, ⟨fun _ => rfl, fun h => absurd h (by omega)⟩, rfl, X1, B1⟩
  case round =>
    obtain ⟨k, q, hk, rfl, HQ, HI, X2, B2⟩ := hrel
    obtain ⟨x0, x1, x2, x3, x4, x5, x6, x7, x8⟩ := box9 X2.out
    by_cases hlt : k < ln
    · obtain ⟨hl, hcs⟩ := RL.out
      obtain ⟨b, off, hla, hbl, hc⟩ := hcs (by omega)
      rw [hla] at x5
      obtain ⟨⟨ve, vl, vt, vk, vp, vn, vg, vz, vb, va⟩, hv⟩ : ∃ v, v = L.getD k zeroR := ⟨_, rfl⟩
      obtain ⟨d0, d1, d2, d3, d4, d5, d6, d7, d8, d9⟩ := RdQ.at hc hlt hv
      dsimp only at d0 d1 d2 d3 d4 d5 d6 d7 d8 d9
      have e0 := (B2.out.cell (p := ⟨b, off + k * 10, none⟩) hbl).trans d0
      have e1 := (B2.out.cell (p := ⟨b, off + k * 10 + 1, none⟩) hbl).trans d1
      have e2 := (B2.out.cell (p := ⟨b, off + k * 10 + 2, none⟩) hbl).trans d2
      have e3 := (B2.out.cell (p := ⟨b, off + k * 10 + 3, none⟩) hbl).trans d3
      have e4 := (B2.out.cell (p := ⟨b, off + k * 10 + 4, none⟩) hbl).trans d4
      have e5 := (B2.out.cell (p := ⟨b, off + k * 10 + 5, none⟩) hbl).trans d5
      have e6 := (B2.out.cell (p := ⟨b, off + k * 10 + 6, none⟩) hbl).trans d6
      have e7 := (B2.out.cell (p := ⟨b, off + k * 10 + 7, none⟩) hbl).trans d7
      have e8 := (B2.out.cell (p := ⟨b, off + k * 10 + 8, none⟩) hbl).trans d8
      have e9 := (B2.out.cell (p := ⟨b, off + k * 10 + 9, none⟩) hbl).trans d9
      have hss := getD_of (d := zeroR) HLS.out (show k < L.length by omega)
      have HA := inPl_at (vs := L) (k := k) (by omega)
      have HE := ofEp_at (vs := L) (k := k) (most := ep) (q := q) (by omega)
      rw [← hv] at HA HE hss
      have HA' : Hid (_ = _) := HA
      have HE' : Hid (_ = _) := HE
      have HV : Hid (⟨ve, vl, vt, vk, vp, vn, vg, vz, vb, va⟩ = L.getD k zeroR) := hv
      have HC : Hid (∀ i, i < ln → ∀ j, j < 10 → w.cell? ⟨b, off + i * 10 + j, none⟩ = (cQ (L.getD i zeroR))[j]?) := hc
      have C0 : Hid (∀ wx, Calls Tryd.prog 73 #[.agg #[.int .i64 ve, .int .i64 vl, .int .i64 vt, .int .i64 vk, .int .i64 vp, .int .i64 vn, .int .i64 vg, .int .i64 vz, .string vb, .string va]] wx fun e w' => e = .returned (.bool (okLS ⟨ve, vl, vt, vk, vp, vn, vg, vz, vb, va⟩)) ∧ Below wx.heap.size wx w') := fun wx => c_specLR ve vl vt vk vp vn vg vz vb va wx hss.1 hss.2
      have LE := okLS_e (D := ⟨ve, vl, vt, vk, vp, vn, vg, vz, vb, va⟩)
      have LQ := okLS_eq ⟨ve, vl, vt, vk, vp, vn, vg, vz, vb, va⟩
      have g1 : (0 : Int) ≤ (k : Int) := by omega
      have g2 : (k : Int) < (ln : Int) := by omega
      have HLE : Hid (okLS ⟨ve, vl, vt, vk, vp, vn, vg, vz, vb, va⟩ = true → 1 ≤ ve) := LE
      have HLQ : Hid (okLS ⟨ve, vl, vt, vk, vp, vn, vg, vz, vb, va⟩ = okLR ⟨ve, vl, vt, vk, vp, vn, vg, vz, vb, va⟩) := LQ
      clear hc hcs hv HA HE hss LE LQ hla hl d0 d1 d2 d3 d4 d5 d6 d7 d8 d9
      obtain ⟨W, hW⟩ : ∃ W, wr.alloc (.cells #[.int .i64 ve, .int .i64 vl, .int .i64 vt, .int .i64 vk, .int .i64 vp, .int .i64 vn, .int .i64 vg, .int .i64 vz, .string vb, .string va] 75) = W := ⟨_, rfl⟩
      have hbA : Below wr.heap.size wr W := by rw [← hW]; exact (Below.refl _ _).alloc (Nat.le_refl _) _
      have HN : Hid (Box W wr.heap.size 75 #[.int .i64 ve, .int .i64 vl, .int .i64 vt, .int .i64 vk, .int .i64 vp, .int .i64 vn, .int .i64 vg, .int .i64 vz, .string vb, .string va]) := by unfold Hid; rw [← hW]; exact Box.new _ _ _
      have HB : Hid (Below w.heap.size w W) := B2.out.trans (hbA.mono B2.out.size)
      have X3 : Hid (Box W w.heap.size 30 #[.slice h.a0 h.n0 h.c0, .slice h.a1 h.n1 h.c1, .bool h.b, .slice h.a2 h.n2 h.c2, .int .i64 ep, .slice la ln lc, .int .i64 su, .slice fa fn fc, .int .i64 ha]) := X2.out.belowS hbA
      obtain ⟨y0, y1, y2, y3, y4, y5, y6, y7, y8, y9⟩ := box10 HN.out
      have ZX : Hid (∀ j v, wr.cell? ⟨w.heap.size, j, none⟩ = some v → W.cell? ⟨w.heap.size, j, none⟩ = some v) := fun j v hj => far6 hbA hj
      have u0 := ZX.out 0 _ x0
      have u1 := ZX.out 1 _ x1
      have u2 := ZX.out 2 _ x2
      have u3 := ZX.out 3 _ x3
      have u4 := ZX.out 4 _ x4
      have u5 := ZX.out 5 _ x5
      have u6 := ZX.out 6 _ x6
      have u7 := ZX.out 7 _ x7
      have u8 := ZX.out 8 _ x8
      clear ZX hbA X2 B2
      go_wp2_with fail
      clear hW x0 x1 x2 x3 x4 x5 x6 x7 x8 e0 e1 e2 e3 e4 e5 e6 e7 e8 e9
      have qu0 := fun r : Out W => q_cell u0 r
      have qu1 := fun r : Out W => q_cell u1 r
      have qu2 := fun r : Out W => q_cell u2 r
      have qu3 := fun r : Out W => q_cell u3 r
      have qu4 := fun r : Out W => q_cell u4 r
      have qu5 := fun r : Out W => q_cell u5 r
      have qu6 := fun r : Out W => q_cell u6 r
      have qu7 := fun r : Out W => q_cell u7 r
      have qu8 := fun r : Out W => q_cell u8 r
      have qy0 := fun r : Out W => q_cell y0 r
      have qy1 := fun r : Out W => q_cell y1 r
      have qy2 := fun r : Out W => q_cell y2 r
      have qy3 := fun r : Out W => q_cell y3 r
      have qy4 := fun r : Out W => q_cell y4 r
      have qy5 := fun r : Out W => q_cell y5 r
      have qy6 := fun r : Out W => q_cell y6 r
      have qy7 := fun r : Out W => q_cell y7 r
      have qy8 := fun r : Out W => q_cell y8 r
      have qy9 := fun r : Out W => q_cell y9 r
      clear u0 u1 u2 u3 u4 u5 u6 u7 u8 y0 y1 y2 y3 y4 y5 y6 y7 y8 y9
      cases hok : okLS ⟨ve, vl, vt, vk, vp, vn, vg, vz, vb, va⟩
      case false =>
        have C : Hid (∀ wx, Calls Tryd.prog 73 #[.agg #[.int .i64 ve, .int .i64 vl, .int .i64 vt, .int .i64 vk, .int .i64 vp, .int .i64 vn, .int .i64 vg, .int .i64 vz, .string vb, .string va]] wx fun e w' => e = .returned (.bool false) ∧ Below wx.heap.size wx w') := by rw [← hok]; exact C0
        have E : Hid (okST D h.n0 ep ln L su fn F ha = false) := by
          unfold Hid
          rw [E0.out, ← HI.out, HA'.out, HE'.out, ← HLQ.out, hok]
          simp
        haveI nx := Out.some W
        refine q_begin (by kernel_rfl) (by kernel_rfl) ?_
        repeat (go_big_quiet_step (exact q_call (C.out _)))
        refine wpQuiet_nil ?_
        rintro w3 ⟨⟨y', hb3⟩, hy⟩
        have hy' : w3 = y' := hy
        clear hy
        subst hy'
        have B3 : Hid (Below w.heap.size w w3) := HB.out.trans (hb3.mono HB.out.size)
        clear hb3 qy0 qy1 qy2 qy3 qy4 qy5 qy6 qy7 qy8 qy9 qu0 qu1 qu2 qu3 qu4 qu5 qu6 qu7 qu8 C
        go_wp2
        go_ret
        exact ⟨ret_bool E.out.symm, B3.out⟩
      have C : Hid (∀ wx, Calls Tryd.prog 73 #[.agg #[.int .i64 ve, .int .i64 vl, .int .i64 vt, .int .i64 vk, .int .i64 vp, .int .i64 vn, .int .i64 vg, .int .i64 vz, .string vb, .string va]] wx fun e w' => e = .returned (.bool true) ∧ Below wx.heap.size wx w') := by rw [← hok]; exact C0
      have hve : 1 ≤ ve := HLE.out hok
      have hoR : Hid (okLR ⟨ve, vl, vt, vk, vp, vn, vg, vz, vb, va⟩ = true) := by unfold Hid; rw [← HLQ.out, hok]
      clear hok C0 HLE HLQ
      by_cases hq : vl = (k : Int) + 1
      case neg =>
        have cq : (vl != (k : Int) + 1) = true := by simpa using hq
        have cq2 : decide (vl = (k : Int) + 1) = false := decide_eq_false hq
        have E : Hid (okST D h.n0 ep ln L su fn F ha = false) := by
          unfold Hid
          rw [E0.out, ← HI.out, HA'.out, HE'.out, hoR.out, decide_eq_false hq]
          simp
        haveI nx := Out.some W
        refine q_begin (by kernel_rfl) (by kernel_rfl) ?_
        repeat (go_big_quiet_step (exact q_call (C.out _)))
        refine wpQuiet_nil ?_
        rintro w3 ⟨⟨y', hb3⟩, hy⟩
        have hy' : w3 = y' := hy
        clear hy
        subst hy'
        have B3 : Hid (Below w.heap.size w w3) := HB.out.trans (hb3.mono HB.out.size)
        clear hb3 qy0 qy1 qy2 qy3 qy4 qy5 qy6 qy7 qy8 qy9 qu0 qu1 qu2 qu3 qu4 qu5 qu6 qu7 qu8 C
        go_wp2
        go_ret
        exact ⟨ret_bool E.out.symm, B3.out⟩
      have cq : (vl != (k : Int) + 1) = false := by simpa using hq
      have cq2 : decide (vl = (k : Int) + 1) = true := decide_eq_true hq
      have HQ1 : Hid (vl = (k : Int) + 1) := hq
      clear hq
      by_cases h2 : ep < ve
      case pos =>
        have ce : decide (ep < ve) = true := decide_eq_true h2
        have E : Hid (okST D h.n0 ep ln L su fn F ha = false) := by
          unfold Hid
          rw [E0.out, ← HI.out, HA'.out, HE'.out, hoR.out, decide_eq_true HQ1.out, decide_eq_false (show ¬ ve ≤ ep by omega)]
          simp
        haveI nx := Out.some W
        refine q_begin (by kernel_rfl) (by kernel_rfl) ?_
        repeat (go_big_quiet_step (exact q_call (C.out _)))
        refine wpQuiet_nil ?_
        rintro w3 ⟨⟨y', hb3⟩, hy⟩
        have hy' : w3 = y' := hy
        clear hy
        subst hy'
        have B3 : Hid (Below w.heap.size w w3) := HB.out.trans (hb3.mono HB.out.size)
        clear hb3 qy0 qy1 qy2 qy3 qy4 qy5 qy6 qy7 qy8 qy9 qu0 qu1 qu2 qu3 qu4 qu5 qu6 qu7 qu8 C
        go_wp2
        go_ret
        exact ⟨ret_bool E.out.symm, B3.out⟩
      have ce : decide (ep < ve) = false := decide_eq_false (by omega)
      have HE2 : Hid (ve ≤ ep) := by unfold Hid; omega
      clear h2
      by_cases hk0 : k = 0
      case pos =>
        have cz : decide (0 < (k : Int)) = false := decide_eq_false (by omega)
        have cz2 : decide (0 < k) = false := decide_eq_false (by omega)
        have HK0 : Hid (k = 0) := hk0
        clear hk0
        have E : Hid ((inPl (k + 1) (L.drop (k + 1)) && ofEp ep ve (L.drop (k + 1))) = (inPl 0 L && ofEp ep 0 L)) := by
          unfold Hid
          rw [← HI.out, HA'.out, HE'.out, hoR.out, decide_eq_true HQ1.out, decide_eq_true HE2.out, decide_eq_true (show q ≤ ve by have := HQ.out.1 HK0.out; omega)]
          rfl
        haveI nx := Out.some W
        refine q_begin (by kernel_rfl) (by kernel_rfl) ?_
        repeat (go_big_quiet_step (exact q_call (C.out _)))
        refine wpQuiet_nil ?_
        rintro w3 ⟨⟨y', hb3⟩, hy⟩
        have hy' : w3 = y' := hy
        clear hy
        subst hy'
        have B3 : Hid (Below w.heap.size w w3) := HB.out.trans (hb3.mono HB.out.size)
        have X5 : Hid (Box w3 w.heap.size 30 #[.slice h.a0 h.n0 h.c0, .slice h.a1 h.n1 h.c1, .bool h.b, .slice h.a2 h.n2 h.c2, .int .i64 ep, .slice la ln lc, .int .i64 su, .slice fa fn fc, .int .i64 ha]) := X3.out.belowS hb3
        have HQN : Hid ((k + 1 = 0 → ve = 0) ∧ (0 < k + 1 → ve = (L.getD (k + 1 - 1) zeroR).e)) := ⟨fun h => absurd h (by omega), fun _ => by rw [Nat.add_sub_cancel, ← HV.out]⟩
        clear hb3 qy0 qy1 qy2 qy3 qy4 qy5 qy6 qy7 qy8 qy9 qu0 qu1 qu2 qu3 qu4 qu5 qu6 qu7 qu8 C
        go_wp2
        go_roundw
        case rel => exact ⟨k + 1, ve, by omega, by go_num, HQN, E, X5, B3⟩
        case measure => simp [intOf]; omega
      obtain ⟨j, rfl⟩ : ∃ j, k = j + 1 := ⟨k - 1, by omega⟩
      have p0 : W.cell? ⟨b, off + j * 10, none⟩ = some (.int .i64 (L.getD j zeroR).e) := (HB.out.cell (p := ⟨b, off + j * 10, none⟩) hbl).trans (HC.out j (by omega) 0 (by omega))
      obtain ⟨pe, hpe⟩ : ∃ z, z = (L.getD j zeroR).e := ⟨_, rfl⟩
      rw [← hpe] at p0
      have HPE : Hid (q = pe) := by unfold Hid; rw [hpe]; have := HQ.out.2 (by omega); rwa [Nat.add_sub_cancel] at this
      have cz : decide (0 < (j : Int) + 1) = true := decide_eq_true (by omega)
      have cz2 : decide (0 < j + 1) = true := decide_eq_true (by omega)
      have cqa0 : decide (vl = (j : Int) + 1 + 1) = true := decide_eq_true (by have := HQ1.out; omega)
      have cqb0 : (vl != (j : Int) + 1 + 1) = false := by have := HQ1.out; simp; omega
      have cqa1 : decide (vl = (j : Int) + 2) = true := decide_eq_true (by have := HQ1.out; omega)
      have cqb1 : (vl != (j : Int) + 2) = false := by have := HQ1.out; simp; omega
      have cqa2 : decide (vl = ((j + 1 : Nat) : Int) + 1) = true := decide_eq_true (by have := HQ1.out; omega)
      have cqb2 : (vl != ((j + 1 : Nat) : Int) + 1) = false := by have := HQ1.out; simp; omega
      clear hk0
      have g3 : (0 : Int) ≤ (j : Int) := by omega
      have g4 : (j : Int) < (ln : Int) := by omega
      clear hpe HQ HC
      by_cases h4 : ve < pe
      case pos =>
        have cp : decide (ve < pe) = true := decide_eq_true h4
        have E : Hid (okST D h.n0 ep ln L su fn F ha = false) := by
          unfold Hid
          rw [E0.out, ← HI.out, HA'.out, HE'.out, hoR.out, decide_eq_true HQ1.out, decide_eq_false (show ¬ q ≤ ve by have := HPE.out; omega)]
          simp
        have p1 := fun r : Out W => q_cell p0 r
        haveI nx := Out.some W
        refine q_begin (by kernel_rfl) (by kernel_rfl) ?_
        repeat (go_big_quiet_step (exact q_call (C.out _)))
        refine wpQuiet_nil ?_
        rintro w3 ⟨⟨y', hb3⟩, hy⟩
        have hy' : w3 = y' := hy
        clear hy
        subst hy'
        have B3 : Hid (Below w.heap.size w w3) := HB.out.trans (hb3.mono HB.out.size)
        clear hb3 qy0 qy1 qy2 qy3 qy4 qy5 qy6 qy7 qy8 qy9 qu0 qu1 qu2 qu3 qu4 qu5 qu6 qu7 qu8 C
        go_wp2
        go_ret
        exact ⟨ret_bool E.out.symm, B3.out⟩
      have cp : decide (ve < pe) = false := decide_eq_false (by omega)
      have E : Hid ((inPl (j + 1 + 1) (L.drop (j + 1 + 1)) && ofEp ep ve (L.drop (j + 1 + 1))) = (inPl 0 L && ofEp ep 0 L)) := by
        unfold Hid
        rw [← HI.out, HA'.out, HE'.out, hoR.out, decide_eq_true HQ1.out, decide_eq_true HE2.out, decide_eq_true (show q ≤ ve by have := HPE.out; omega)]
        rfl
      have p1 := fun r : Out W => q_cell p0 r
      haveI nx := Out.some W
      refine q_begin (by kernel_rfl) (by kernel_rfl) ?_
      repeat (go_big_quiet_step (exact q_call (C.out _)))
      refine wpQuiet_nil ?_
      rintro w3 ⟨⟨y', hb3⟩, hy⟩
      have hy' : w3 = y' := hy
      clear hy
      subst hy'
      have B3 : Hid (Below w.heap.size w w3) := HB.out.trans (hb3.mono HB.out.size)
      have X5 : Hid (Box w3 w.heap.size 30 #[.slice h.a0 h.n0 h.c0, .slice h.a1 h.n1 h.c1, .bool h.b, .slice h.a2 h.n2 h.c2, .int .i64 ep, .slice la ln lc, .int .i64 su, .slice fa fn fc, .int .i64 ha]) := X3.out.belowS hb3
      have HQN : Hid ((j + 1 + 1 = 0 → ve = 0) ∧ (0 < j + 1 + 1 → ve = (L.getD (j + 1 + 1 - 1) zeroR).e)) := ⟨fun h => absurd h (by omega), fun _ => by rw [Nat.add_sub_cancel, ← HV.out]⟩
      clear hb3 qy0 qy1 qy2 qy3 qy4 qy5 qy6 qy7 qy8 qy9 qu0 qu1 qu2 qu3 qu4 qu5 qu6 qu7 qu8 p0 p1 C
      go_wp2
      go_roundw
      case rel => exact ⟨j + 1 + 1, ve, by omega, by go_num, HQN, E, X5, B3⟩
      case measure => simp [intOf]; omega
    have hge : ¬ (k : Int) < (ln : Int) := by omega
    have EL : Hid ((inPl 0 L && ofEp ep 0 L) = true) := by unfold Hid; rw [← HI.out, List.drop_eq_nil_of_le (by have := RL.out.1; omega)]; rfl
    have E1 : Hid (okST D h.n0 ep ln L su fn F ha = (arF (ln : Int) [] F && hasPg (rdS D.S D.C) su)) := by unfold Hid; rw [E0.out, EL.out]; rfl
    clear HI HQ EL E0 RL HLS B1 X1
    go_wp2
    clear hge hlt hk x0 x1 x2 x3 x4 x5 x6 x7 x8
    go_loopw [5] (fun i wr => ∃ (k : Nat) (tk : List Nat), k ≤ fn ∧ i = .int .i64 k ∧ Hid (∀ m : Nat, tk.contains m = true ↔ ∃ f ∈ F.take k, f.no = (m : Int)) ∧ Hid (arF (ln : Int) tk (F.drop k) = arF (ln : Int) [] F) ∧ Hid (Box wr w.heap.size 30 #[.slice h.a0 h.n0 h.c0, .slice h.a1 h.n1 h.c1, .bool h.b, .slice h.a2 h.n2 h.c2, .int .i64 ep, .slice la ln lc, .int .i64 su, .slice fa fn fc, .int .i64 ha]) ∧ Hid (Below w.heap.size w wr)) (fun i _ => fn - (intOf i).toNat)
    case atStart => exact ⟨0, [], by omega, rfl, fun m => by simp, rfl, X2, B2⟩
    case round =>
      clear X2 B2
      obtain ⟨k, tk, hk, rfl, HTK, HA, X2, B2⟩ := hrel
      obtain ⟨x0, x1, x2, x3, x4, x5, x6, x7, x8⟩ := box9 X2.out
      by_cases hlt : k < fn
      · obtain ⟨hl, hcs, hpg⟩ := RF.out
        obtain ⟨b, off, hfa, hbl, hc⟩ := hcs (by omega)
        rw [hfa] at x7
        obtain ⟨d0, d1, d2, d3, d4⟩ := hc k hlt
        have HAT := arF_at (last := (ln : Int)) (tk := tk) (fs := F) (k := k) (by omega)
        have RG := (hpg k hlt).below B2.out
        have FG := HFS.out k hlt
        obtain ⟨⟨no, g, D1, d, fi⟩, hv⟩ : ∃ v, v = F.getD k zeroF := ⟨_, rfl⟩
        have HV : Hid ((F.getD k zeroF).no = no) := by unfold Hid; rw [← hv]
        have HFL : Hid (k < F.length) := by unfold Hid; omega
        rw [← hv] at d0 d1 d2 d3 d4 HAT RG FG
        dsimp only at d0 d1 d2 d3 d4 HAT RG FG
        have e0 := (B2.out.cell (p := ⟨b, off + k * 5, none⟩) hbl).trans d0
        have e1 := (B2.out.cell (p := ⟨b, off + k * 5 + 1, none⟩) hbl).trans d1
        have e2 := (B2.out.cell (p := ⟨b, off + k * 5 + 2, none⟩) hbl).trans d2
        have e3 := (B2.out.cell (p := ⟨b, off + k * 5 + 3, none⟩) hbl).trans d3
        have e4 := (B2.out.cell (p := ⟨b, off + k * 5 + 4, none⟩) hbl).trans d4
        have HAT' : Hid (_ = _) := HAT
        have g1 : (0 : Int) ≤ (k : Int) := by omega
        have g2 : (k : Int) < (fn : Int) := by omega
        obtain ⟨W, hW⟩ : ∃ W, wr.alloc (.cells #[.int .i64 no, .int .i64 g.l, .slice g.a g.n g.c, .bool d, .int .i64 fi] 109) = W := ⟨_, rfl⟩
        have hbA : Below wr.heap.size wr W := by rw [← hW]; exact (Below.refl _ _).alloc (Nat.le_refl _) _
        have HN : Hid (Box W wr.heap.size 109 #[.int .i64 no, .int .i64 g.l, .slice g.a g.n g.c, .bool d, .int .i64 fi]) := by unfold Hid; rw [← hW]; exact Box.new _ _ _
        have BW : Hid (Below w.heap.size w W) := B2.out.trans (hbA.mono B2.out.size)
        have XW : Hid (Box W w.heap.size 30 #[.slice h.a0 h.n0 h.c0, .slice h.a1 h.n1 h.c1, .bool h.b, .slice h.a2 h.n2 h.c2, .int .i64 ep, .slice la ln lc, .int .i64 su, .slice fa fn fc, .int .i64 ha]) := X2.out.belowS hbA
        have CP := G.c_specOK g D1 W (RG.below hbA) FG
        have HGL : Hid (g.l = D1.L) := RG.1
        have u5 : W.cell? ⟨w.heap.size, 5, none⟩ = some (.slice la ln lc) := far6 hbA x5
        clear hl hcs hpg hc hv HAT RG FG d0 d1 d2 d3 d4 hbA X2 B2 hfa
        obtain ⟨y0, y1, y2, y3, y4⟩ := box5 HN.out
        go_wp2_with fail
        refine (c_in no 0 7 W).mono ?_
        rintro e w' ⟨rfl, hw⟩
        have hw' := hw.symm
        subst hw'
        clear hw
        cases hno : inB no 0 7
        case false =>
          have E : Hid (okST D h.n0 ep ln L su fn F ha = false) := by unfold Hid; rw [E1.out, ← HA.out, HAT'.out, okFr_bad (.inl hno)]; rfl
          clear hno
          go_wp2
          go_ret
          exact ⟨ret_bool E.out.symm, BW.out⟩
        have Kno : Hid (inB no 0 7 = true) := hno
        clear hno
        go_wp2_with fail
        refine CP.mono ?_
        rintro e w3 ⟨rfl, hb3⟩
        have B3 : Hid (Below w.heap.size w w3) := BW.out.trans (hb3.mono BW.out.size)
        have X3 : Hid (Box w3 w.heap.size 30 #[.slice h.a0 h.n0 h.c0, .slice h.a1 h.n1 h.c1, .bool h.b, .slice h.a2 h.n2 h.c2, .int .i64 ep, .slice la ln lc, .int .i64 su, .slice fa fn fc, .int .i64 ha]) := XW.out.belowS hb3
        have N3 : Hid (Box w3 wr.heap.size 109 #[.int .i64 no, .int .i64 g.l, .slice g.a g.n g.c, .bool d, .int .i64 fi]) := HN.out.belowS hb3
        clear hb3 CP BW XW HN hW y0 y1 y2 y3 y4 e0 e1 e2 e3 e4 x0 x1 x2 x3 x4 x5 x6 x7 x8
        obtain ⟨y0, y1, y2, y3, y4⟩ := box5 N3.out
        obtain ⟨x0, x1, x2, x3, x4, x5, x6, x7, x8⟩ := box9 X3.out
        cases hg : G.okG D1
        case false =>
          have E : Hid (okST D h.n0 ep ln L su fn F ha = false) := by unfold Hid; rw [E1.out, ← HA.out, HAT'.out, okFr_bad (.inr (.inl hg))]; rfl
          clear hg
          go_wp2
          go_ret
          exact ⟨ret_bool E.out.symm, B3.out⟩
        have Kg : Hid (G.okG D1 = true) := hg
        clear hg
        by_cases hL : g.l ≤ (ln : Int)
        case neg =>
          have E : Hid (okST D h.n0 ep ln L su fn F ha = false) := by unfold Hid; rw [E1.out, ← HA.out, HAT'.out, okFr_bad (.inr (.inr (.inl (by rw [← HGL.out]; exact hL))))]; rfl
          go_wp2
          go_ret
          exact ⟨ret_bool E.out.symm, B3.out⟩
        have KL : Hid (D1.L ≤ (ln : Int)) := by unfold Hid; rw [← HGL.out]; exact hL
        go_wp2_with fail
        refine (c_in fi 0 (ln : Int) w3).mono ?_
        rintro e w' ⟨rfl, hw⟩
        have hw' := hw.symm
        subst hw'
        clear hw
        cases hfi : inB fi 0 (ln : Int)
        case false =>
          have E : Hid (okST D h.n0 ep ln L su fn F ha = false) := by unfold Hid; rw [E1.out, ← HA.out, HAT'.out, okFr_bad (.inr (.inr (.inr (.inl hfi))))]; rfl
          clear hfi
          go_wp2
          go_ret
          exact ⟨ret_bool E.out.symm, B3.out⟩
        have Kfi : Hid (inB fi 0 (ln : Int) = true) := hfi
        clear hfi
        by_cases hd : d = decide (0 < fi)
        case neg =>
          have E : Hid (okST D h.n0 ep ln L su fn F ha = false) := by unfold Hid; rw [E1.out, ← HA.out, HAT'.out, okFr_bad (.inr (.inr (.inr (.inr (hd)))))]; rfl
          have cd : (d != decide (0 < fi)) = true := by simpa using hd
          have cd2 : (d = decide (0 < fi)) = False := eq_false hd
          have cd3 : (!d == decide (0 < fi)) = true := by revert hd; cases d <;> cases decide (0 < fi) <;> simp
          have cL : ((ln : Int) < g.l) = False := eq_false (by omega)
          clear hd
          go_wp2
          go_ret
          exact ⟨ret_bool E.out.symm, B3.out⟩
        have cd : (d != decide (0 < fi)) = false := by simpa using hd
        have cd2 : (d = decide (0 < fi)) = True := eq_true hd
        have cd3 : (!d == decide (0 < fi)) = false := by rw [hd]; cases decide (0 < fi) <;> rfl
        have cL : ((ln : Int) < g.l) = False := eq_false (by omega)
        have KF : Hid (okFr no D1 d fi (ln : Int) = true) := okFr_good Kno.out Kg.out KL.out Kfi.out hd
        obtain ⟨m, hm⟩ : ∃ m : Nat, no = (m : Int) := ⟨no.toNat, by have := of_decide_eq_true Kno.out; omega⟩
        have C6 := C4.out no w3 B3.out
        clear hd Kno Kg KL Kfi
        by_cases hcl : ∃ f ∈ F.take k, f.no = no
        case pos =>
          have hix := ixF_not HFL.out hcl
          have hct : tk.contains no.toNat = true := by rw [HTK.out, hm, Int.toNat_natCast, ← hm]; exact hcl
          obtain ⟨z, hz⟩ : ∃ z, z = ixF no 0 F := ⟨_, rfl⟩
          rw [← hz] at C6 hix
          have cx : (z != (k : Int)) = true := by simp; omega
          have E : Hid (okST D h.n0 ep ln L su fn F ha = false) := by unfold Hid; rw [E1.out, ← HA.out, HAT'.out, KF.out, hct]; rfl
          clear hix hct hz hm hcl
          go_wp2_with fail
          refine C6.mono ?_
          rintro e w4 ⟨rfl, hb4⟩
          have B4 : Hid (Below w.heap.size w w4) := B3.out.trans (hb4.mono B3.out.size)
          clear hb4 C6 B3 X3 N3 y0 y1 y2 y3 y4 x0 x1 x2 x3 x4 x5 x6 x7 x8
          go_wp2
          go_ret
          exact ⟨ret_bool E.out.symm, B4.out⟩
        have hix := ixF_here HFL.out HV.out hcl
        have hct : tk.contains no.toNat = false := by
          cases hq : tk.contains no.toNat
          · rfl
          · exact absurd ((HTK.out no.toNat).1 hq) (by rw [hm, Int.toNat_natCast, ← hm]; exact hcl)
        rw [hix] at C6
        have cx : ((k : Int) != (k : Int)) = false := by simp
        have E : Hid (arF (ln : Int) (no.toNat :: tk) (F.drop (k + 1)) = arF (ln : Int) [] F) := by unfold Hid; rw [← HA.out, HAT'.out, KF.out, hct]; rfl
        have HT2 : Hid (∀ m : Nat, (no.toNat :: tk).contains m = true ↔ ∃ f ∈ F.take (k + 1), f.no = (m : Int)) := fun m' => by
          rw [take_ex HFL.out, HV.out, List.contains_cons, Bool.or_eq_true, HTK.out, beq_iff_eq]
          exact ⟨fun q => q.elim (fun q => .inl (by omega)) .inr, fun q => q.elim (fun q => .inl (by omega)) .inr⟩
        clear hix hct hm hcl
        go_wp2_with fail
        refine C6.mono ?_
        rintro e w4 ⟨rfl, hb4⟩
        have B4 : Hid (Below w.heap.size w w4) := B3.out.trans (hb4.mono B3.out.size)
        have X4 : Hid (Box w4 w.heap.size 30 #[.slice h.a0 h.n0 h.c0, .slice h.a1 h.n1 h.c1, .bool h.b, .slice h.a2 h.n2 h.c2, .int .i64 ep, .slice la ln lc, .int .i64 su, .slice fa fn fc, .int .i64 ha]) := X3.out.belowS hb4
        clear hb4 C6 B3 X3 N3 y0 y1 y2 y3 y4 x0 x1 x2 x3 x4 x5 x6 x7 x8
        go_wp2
        go_roundw
        case rel => exact ⟨k + 1, no.toNat :: tk, by omega, by go_num, HT2, E, X4, B4⟩
        case measure => simp [intOf]; omega
      have hge : ¬ (k : Int) < (fn : Int) := by omega
      have EF : Hid (arF (ln : Int) [] F = true) := by unfold Hid; rw [← HA.out, List.drop_eq_nil_of_le (by have := RF.out.1; omega)]; rfl
      have E2 : Hid (okST D h.n0 ep ln L su fn F ha = hasPg (rdS D.S D.C) su) := by unfold Hid; rw [E1.out, EF.out]; rfl
      clear HA HTK EF E1 RF HFS C4
      go_wp2
      clear hge hlt hk x0 x1 x2 x3 x4 x5 x6 x7 x8
      go_loopw [7] (fun i wr => ∃ (k : Nat), k ≤ 8 ∧ i = .int .i64 k ∧ Hid (∀ p, p < k → okPg (rdS D.S D.C) su p = true) ∧ Hid (Box wr w.heap.size 30 #[.slice h.a0 h.n0 h.c0, .slice h.a1 h.n1 h.c1, .bool h.b, .slice h.a2 h.n2 h.c2, .int .i64 ep, .slice la ln lc, .int .i64 su, .slice fa fn fc, .int .i64 ha]) ∧ Hid (Below w.heap.size w wr)) (fun i _ => 8 - (intOf i).toNat)
      case atStart => exact ⟨0, by omega, rfl, fun p hp => absurd hp (by omega), X2, B2⟩
      case round =>
        clear X2 B2
        obtain ⟨k, hk, rfl, HP, X2, B2⟩ := hrel
        obtain ⟨x0, x1, x2, x3, x4, x5, x6, x7, x8⟩ := box9 X2.out
        by_cases hlt : k < 8
        · have C7 := C5.out KOK.out H69.out k hlt wr B2.out
          have g2 : (k : Int) < 8 := by omega
          obtain ⟨pp, hpp⟩ : ∃ pp, pp = pgO k (rdS D.S D.C (1 + k)) := ⟨_, rfl⟩
          rw [← hpp] at C7
          go_wp2_with fail
          refine C7.mono ?_
          rintro e w3 ⟨⟨h', rfl, hL⟩, hb3⟩
          obtain ⟨W, hW⟩ : ∃ W, w3.alloc (.cells #[.int .i64 h'.l, .slice h'.a h'.n h'.c] 87) = W := ⟨_, rfl⟩
          have hbA : Below w3.heap.size w3 W := by rw [← hW]; exact (Below.refl _ _).alloc (Nat.le_refl _) _
          have HN : Hid (Box W w3.heap.size 87 #[.int .i64 h'.l, .slice h'.a h'.n h'.c]) := by unfold Hid; rw [← hW]; exact Box.new _ _ _
          have B3 : Hid (Below w.heap.size w W) := (B2.out.trans (hb3.mono B2.out.size)).trans (hbA.mono (Nat.le_trans B2.out.size hb3.size))
          have X3 : Hid (Box W w.heap.size 30 #[.slice h.a0 h.n0 h.c0, .slice h.a1 h.n1 h.c1, .bool h.b, .slice h.a2 h.n2 h.c2, .int .i64 ep, .slice la ln lc, .int .i64 su, .slice fa fn fc, .int .i64 ha]) := (X2.out.belowS hb3).belowS hbA
          clear hb3 hbA C7 X2 B2 x0 x1 x2 x3 x4 x5 x6 x7 x8
          obtain ⟨y0, y1⟩ := G.box2 HN.out
          obtain ⟨x0, x1, x2, x3, x4, x5, x6, x7, x8⟩ := box9 X3.out
          cases pp with
          | none =>
            have E : Hid (okST D h.n0 ep ln L su fn F ha = false) := by unfold Hid; rw [E2.out]; exact hasPg_no hlt (okPg_none hpp.symm)
            clear hL hpp
            rw [Option.isSome_none]
            go_wp2
            go_ret
            exact ⟨ret_bool E.out.symm, B3.out⟩
          | some P1 =>
            have hl := hL P1 rfl
            have ho := okPg_some (sure := su) hpp.symm
            rw [← hl] at ho
            have HO : Hid (okPg (rdS D.S D.C) su k = decide (h'.l ≤ su)) := ho
            clear hL hpp ho hl
            rw [Option.isSome_some]
            by_cases hsu : h'.l ≤ su
            · have HP2 : Hid (∀ p, p < k + 1 → okPg (rdS D.S D.C) su p = true) := fun p hp => by
                by_cases e : p = k
                · subst e; rw [HO.out, decide_eq_true hsu]
                · exact HP.out p (by omega)
              go_wp2
              go_roundw
              case rel => exact ⟨k + 1, by omega, by go_num, HP2, X3, B3⟩
              case measure => simp [intOf]; omega
            · have E : Hid (okST D h.n0 ep ln L su fn F ha = false) := by unfold Hid; rw [E2.out]; exact hasPg_no hlt (by rw [HO.out, decide_eq_false hsu])
              go_wp2
              go_ret
              exact ⟨ret_bool E.out.symm, B3.out⟩
        have hge : ¬ (k : Int) < 8 := by omega
        have E : Hid (okST D h.n0 ep ln L su fn F ha = true) := by unfold Hid; rw [E2.out]; exact hasPg_yes fun p hp => HP.out p (by omega)
        go_wp2
        go_ret
        exact ⟨ret_bool E.out.symm, B2.out⟩

end Go.Proofs.YtpomedfofnceeaaDoor
namespace Go.Proofs.YtpomedfofnceeaaDoor
open Go Go.RowKit
attribute [local go_sem ↓] Go.wp_at_zero Go.wp_at_succ

theorem arF_says (last : Int) : ∀ (fs gs : List FF) (tk : List Nat), fs.map saysF = gs.map saysF → arF last tk fs = arF last tk gs
  | [], [], _, _ => rfl
  | [], _ :: _, _, h => by cases h
  | _ :: _, [], _, h => by cases h
  | f :: fs, g :: gs, tk, h => by
    simp only [List.map_cons, List.cons.injEq, saysF, Prod.mk.injEq] at h
    obtain ⟨⟨h1, h2, h3, h4⟩, h5⟩ := h
    show (okFr f.no f.D f.d f.fi last && (!(tk.contains f.no.toNat) && arF last (f.no.toNat :: tk) fs)) = (okFr g.no g.D g.d g.fi last && (!(tk.contains g.no.toNat) && arF last (g.no.toNat :: tk) gs))
    rw [h1, h2, h3, h4, arF_says last fs gs _ h5]
theorem okST_same {D : DD} {n0 : Nat} {ep : Int} {ln : Nat} {L : List DR} {su : Int} {fn : Nat} {F gs : List FF} {ha : Int} (h : SameF F gs) : okST D n0 ep ln L su fn gs ha = okST D n0 ep ln L su fn F ha := by
  unfold okST
  rw [arF_says _ gs F [] h.symm]
theorem FitS.same {D : DD} {ln : Nat} {L : List DR} {fn : Nat} {F gs : List FF} (h : FitS D ln L fn F) (s : SameF F gs) : FitS D ln L fn gs :=
  ⟨h.1, h.2.1, h.2.2.1, fun i hi => by
    have := s.at i
    simp only [saysF, Prod.mk.injEq] at this
    rw [← this.2.1]
    exact h.2.2.2 i hi⟩
set_option maxRecDepth 100000 in
set_option maxHeartbeats 2000000 in
theorem law_FnExactStoreOK (h : HD) (D : DD) (ep : Int) (la : Option Addr) (ln lc : Nat) (L : List DR) (su : Int) (fa : Option Addr) (fn fc : Nat) (F : List FF) (ha : Int) (w : World) (r : RdD w h D) (ht : TabH w) (m0 : h.n0 ≤ maxLen) (m1 : h.n1 ≤ maxLen) (m2 : h.n2 ≤ maxLen) (s0 : ∀ s ∈ D.S, s.size ≤ maxLen) (s1 : ∀ p ∈ D.C, p.2.size ≤ maxLen) (rl : RdQ w la ln L) (hln : ln ≤ maxLen) (hls : ∀ v ∈ L, v.b.size ≤ maxLen ∧ v.a.size ≤ maxLen) (rf : RdF w fa fn F) (hfn : fn ≤ maxLen) (hfs : ∀ i, i < fn → (F.getD i zeroF).h.n ≤ maxLen ∧ ∀ s ∈ (F.getD i zeroF).D.S, s.size ≤ maxLen) :
    Calls Tryd.prog 5 #[.agg #[.slice h.a0 h.n0 h.c0, .slice h.a1 h.n1 h.c1, .bool h.b, .slice h.a2 h.n2 h.c2, .int .i64 ep, .slice la ln lc, .int .i64 su, .slice fa fn fc, .int .i64 ha]] w fun e w' => e = .returned (.bool true) ∧ Below w.heap.size w w' := by
  obtain ⟨V, hV⟩ : ∃ V, w.alloc (.cells #[.slice h.a0 h.n0 h.c0, .slice h.a1 h.n1 h.c1, .bool h.b, .slice h.a2 h.n2 h.c2, .int .i64 ep, .slice la ln lc, .int .i64 su, .slice fa fn fc, .int .i64 ha] 51) = V := ⟨_, rfl⟩
  have B0 : Hid (Below w.heap.size w V) := by unfold Hid; rw [← hV]; exact (Below.refl _ _).alloc (Nat.le_refl _) _
  have X0 : Hid (Box V w.heap.size 51 #[.slice h.a0 h.n0 h.c0, .slice h.a1 h.n1 h.c1, .bool h.b, .slice h.a2 h.n2 h.c2, .int .i64 ep, .slice la ln lc, .int .i64 su, .slice fa fn fc, .int .i64 ha]) := by unfold Hid; rw [← hV]; exact Box.new _ _ _
  have C1 := c_szST h D ep la ln lc L su fa fn fc F ha 1048576 V (r.below B0.out) m0 m1 m2 s0 s1 (rl.below B0.out) hln hls (rf.below B0.out) hfn hfs (by omega) (by omega)
  have C2 : Hid (FitS D ln L fn F → ∀ W, Below w.heap.size w W → Calls Tryd.prog 24 #[.agg #[.slice h.a0 h.n0 h.c0, .slice h.a1 h.n1 h.c1, .bool h.b, .slice h.a2 h.n2 h.c2, .int .i64 ep, .slice la ln lc, .int .i64 su, .slice fa fn fc, .int .i64 ha]] W fun e w' => (∃ (h' : HD) (la' : Option Addr) (lc' : Nat) (fa' : Option Addr) (fc' : Nat) (gs : List FF), e = .returned (.agg #[.slice h'.a0 h'.n0 h'.c0, .slice h'.a1 h'.n1 h'.c1, .bool h'.b, .slice h'.a2 h'.n2 h'.c2, .int .i64 ep, .slice la' ln lc', .int .i64 su, .slice fa' fn fc', .int .i64 ha]) ∧ SameF F gs ∧ OwnS w' W.heap.size w'.heap.size h' D la' ln lc' L fa' fn fc' gs) ∧ Below W.heap.size W w') := fun hf W hW => c_toST h D ep la ln lc L su fa fn fc F ha W (r.below hW) (rl.below hW) (rf.below hW) hf
  have HT : Hid (TabH w) := ht
  have RN : Hid (D.S.length = h.n0) := r.l0
  clear r ht m0 m1 m2 s0 s1 rl hln hls rf hfn hfs
  obtain ⟨x0, x1, x2, x3, x4, x5, x6, x7, x8⟩ := box9 X0.out
  go_enter Tryd.func5, Tryd.ntmps5
  go_wp2_with fail
  refine C1.mono ?_
  rintro e w1 ⟨⟨z, rfl, hz, hf⟩, hb⟩
  have B1 : Hid (Below w.heap.size w w1) := B0.out.trans (hb.mono B0.out.size)
  have X1 : Hid (Box w1 w.heap.size 51 #[.slice h.a0 h.n0 h.c0, .slice h.a1 h.n1 h.c1, .bool h.b, .slice h.a2 h.n2 h.c2, .int .i64 ep, .slice la ln lc, .int .i64 su, .slice fa fn fc, .int .i64 ha]) := X0.out.belowS hb
  clear hb B0 X0 C1 hV x0 x1 x2 x3 x4 x5 x6 x7 x8
  by_cases hneg : z < 0
  · clear hf
    go_wp2
    go_ret
    exact ⟨rfl, B1.out⟩
  have FS : Hid (FitS D ln L fn F) := hf (by omega)
  clear hf
  obtain ⟨x0, x1, x2, x3, x4, x5, x6, x7, x8⟩ := box9 X1.out
  go_wp2_with fail
  refine (C2.out FS.out w1 B1.out).mono ?_
  rintro e w2 ⟨⟨h2, l2, lc2, f2, fc2, g2, rfl, sm2, o2⟩, hb⟩
  have B2 : Hid (Below w.heap.size w w2) := B1.out.trans (hb.mono B1.out.size)
  have X2 : Hid (Box w2 w.heap.size 51 #[.slice h.a0 h.n0 h.c0, .slice h.a1 h.n1 h.c1, .bool h.b, .slice h.a2 h.n2 h.c2, .int .i64 ep, .slice la ln lc, .int .i64 su, .slice fa fn fc, .int .i64 ha]) := X1.out.belowS hb
  obtain ⟨rd2, rq2, rf2⟩ := o2.rd
  have FG := FS.out.same sm2
  have hn2 : h2.n0 = h.n0 := by rw [← rd2.l0, RN.out]
  have C3 := c_specST h2 ep l2 ln lc2 su f2 fn fc2 ha D L g2 w2 rd2 FG.1 rq2 FG.2.1.1 FG.2.1.2 rf2 FG.2.2.1 FG.2.2.2
  rw [show okST D h2.n0 ep ln L su fn g2 ha = okST D h.n0 ep ln L su fn F ha by rw [okST_same sm2, hn2]] at C3
  have C3' : Hid (Calls _ _ _ _ _) := C3
  clear hb B1 X1 x0 x1 x2 x3 x4 x5 x6 x7 x8 rd2 rq2 rf2 FG hn2 o2 sm2 C3
  go_wp2_with fail
  refine C3'.out.mono ?_
  rintro e w3 ⟨rfl, hb⟩
  have B3 : Hid (Below w.heap.size w w3) := B2.out.trans (hb.mono B2.out.size)
  have X3 : Hid (Box w3 w.heap.size 51 #[.slice h.a0 h.n0 h.c0, .slice h.a1 h.n1 h.c1, .bool h.b, .slice h.a2 h.n2 h.c2, .int .i64 ep, .slice la ln lc, .int .i64 su, .slice fa fn fc, .int .i64 ha]) := X2.out.belowS hb
  obtain ⟨ok, hok⟩ : ∃ b, b = okST D h.n0 ep ln L su fn F ha := ⟨_, rfl⟩
  rw [← hok]
  have HOK : Hid (ok = okST D h.n0 ep ln L su fn F ha) := hok
  clear hb B2 X2 C3' hok
  obtain ⟨x0, x1, x2, x3, x4, x5, x6, x7, x8⟩ := box9 X3.out
  go_wp2_with fail
  refine (C2.out FS.out w3 B3.out).mono ?_
  rintro e w4 ⟨⟨hx, lx, lcx, fx, fcx, gx, rfl, smx, ox⟩, hb⟩
  have B4 : Hid (Below w.heap.size w w4) := B3.out.trans (hb.mono B3.out.size)
  have X4 : Hid (Box w4 w.heap.size 51 #[.slice h.a0 h.n0 h.c0, .slice h.a1 h.n1 h.c1, .bool h.b, .slice h.a2 h.n2 h.c2, .int .i64 ep, .slice la ln lc, .int .i64 su, .slice fa fn fc, .int .i64 ha]) := X3.out.belowS hb
  have OX4 : Hid (OwnS w4 w3.heap.size w4.heap.size hx D lx ln lcx L fx fn fcx gx) := ox
  have SMX : Hid (SameF F gx) := smx
  clear hb B3 X3 x0 x1 x2 x3 x4 x5 x6 x7 x8 ox smx
  obtain ⟨w5, hw5⟩ : ∃ W, w4.alloc (.cells #[.slice hx.a0 hx.n0 hx.c0, .slice hx.a1 hx.n1 hx.c1, .bool hx.b, .slice hx.a2 hx.n2 hx.c2, .int .i64 ep, .slice lx ln lcx, .int .i64 su, .slice fx fn fcx, .int .i64 ha] 30) = W := ⟨_, rfl⟩
  have hb : Below w4.heap.size w4 w5 := by rw [← hw5]; exact (Below.refl _ _).alloc (Nat.le_refl _) _
  have B5 : Hid (Below w.heap.size w w5) := B4.out.trans (hb.mono B4.out.size)
  have X5 : Hid (Box w5 w.heap.size 51 #[.slice h.a0 h.n0 h.c0, .slice h.a1 h.n1 h.c1, .bool h.b, .slice h.a2 h.n2 h.c2, .int .i64 ep, .slice la ln lc, .int .i64 su, .slice fa fn fc, .int .i64 ha]) := X4.out.belowS hb
  have Y5 : Hid (Box w5 w4.heap.size 30 #[.slice hx.a0 hx.n0 hx.c0, .slice hx.a1 hx.n1 hx.c1, .bool hx.b, .slice hx.a2 hx.n2 hx.c2, .int .i64 ep, .slice lx ln lcx, .int .i64 su, .slice fx fn fcx, .int .i64 ha]) := by have := Box.new w4 #[.slice hx.a0 hx.n0 hx.c0, .slice hx.a1 hx.n1 hx.c1, .bool hx.b, .slice hx.a2 hx.n2 hx.c2, .int .i64 ep, .slice lx ln lcx, .int .i64 su, .slice fx fn fcx, .int .i64 ha] 30; rwa [hw5] at this
  have OX5 : Hid (OwnS w5 w3.heap.size w4.heap.size hx D lx ln lcx L fx fn fcx gx) := OX4.out.below hb
  clear hb B4 X4 OX4
  obtain ⟨rd5, rq5, rf5⟩ := OX5.out.rd
  have FG := FS.out.same SMX.out
  have hn5 : hx.n0 = h.n0 := by rw [← rd5.l0, RN.out]
  have C5 := c_implST hx D ep lx ln lcx L su fx fn fcx gx ha w5 rd5 FG.1 rq5 FG.2.1.1 (fun v hv => by have := FG.2.1.2 v hv; unfold maxLen; omega) rf5 FG.2.2.1 FG.2.2.2 (HT.out.below B5.out)
  rw [show okST D hx.n0 ep ln L su fn gx ha = ok by rw [okST_same SMX.out, hn5, ← HOK.out]] at C5
  have C5' : Hid (Calls _ _ _ _ _) := C5
  clear rd5 rq5 rf5 FG hn5 C5
  obtain ⟨u0, u1, u2, u3, u4, u5, u6, u7, u8⟩ := box9 Y5.out
  go_wp2_with fail
  refine C5'.out.mono ?_
  rintro e w6 ⟨rfl, hb⟩
  have B6 : Hid (Below w.heap.size w w6) := B5.out.trans (hb.mono B5.out.size)
  have X6 : Hid (Box w6 w.heap.size 51 #[.slice h.a0 h.n0 h.c0, .slice h.a1 h.n1 h.c1, .bool h.b, .slice h.a2 h.n2 h.c2, .int .i64 ep, .slice la ln lc, .int .i64 su, .slice fa fn fc, .int .i64 ha]) := X5.out.belowS hb
  have Y6 : Hid (Box w6 w4.heap.size 30 #[.slice hx.a0 hx.n0 hx.c0, .slice hx.a1 hx.n1 hx.c1, .bool hx.b, .slice hx.a2 hx.n2 hx.c2, .int .i64 ep, .slice lx ln lcx, .int .i64 su, .slice fx fn fcx, .int .i64 ha]) := Y5.out.belowS hb
  have OX6 : Hid (OwnS w6 w3.heap.size w4.heap.size hx D lx ln lcx L fx fn fcx gx) := OX5.out.below hb
  clear hb B5 X5 Y5 OX5 hw5 u0 u1 u2 u3 u4 u5 u6 u7 u8
  have CE : Hid (∀ W, Below w6.heap.size w6 W → ∀ h7 l7 lc7 f7 fc7 g7, SameF F g7 → OwnS W w6.heap.size W.heap.size h7 D l7 ln lc7 L f7 fn fc7 g7 → Calls Tryd.prog 19 #[.agg #[.slice hx.a0 hx.n0 hx.c0, .slice hx.a1 hx.n1 hx.c1, .bool hx.b, .slice hx.a2 hx.n2 hx.c2, .int .i64 ep, .slice lx ln lcx, .int .i64 su, .slice fx fn fcx, .int .i64 ha], .agg #[.slice h7.a0 h7.n0 h7.c0, .slice h7.a1 h7.n1 h7.c1, .bool h7.b, .slice h7.a2 h7.n2 h7.c2, .int .i64 ep, .slice l7 ln lc7, .int .i64 su, .slice f7 fn fc7, .int .i64 ha]] W fun e w' => e = .returned (.bool true) ∧ Below W.heap.size W w') := fun W hW h7 l7 lc7 f7 fc7 g7 s7 o7 => by
    obtain ⟨ra, rb, rc⟩ := (OX6.out.below hW).rd
    obtain ⟨rd, re, rf⟩ := o7.rd
    exact c_eqST hx h7 D ep lx l7 ln lcx lc7 L su fx f7 fn fcx fc7 gx g7 ha W ra rd rb re rc rf (SMX.out.symm.trans s7) (FS.out.same SMX.out)
  have nb : (ok != ok) = false := by simp
  obtain ⟨x0, x1, x2, x3, x4, x5, x6, x7, x8⟩ := box9 X6.out
  obtain ⟨u0, u1, u2, u3, u4, u5, u6, u7, u8⟩ := box9 Y6.out
  go_wp2_with fail
  go_region_held3 (fun x => x.cell? ⟨w.heap.size, 0, none⟩ = some (.slice h.a0 h.n0 h.c0) ∧ x.cell? ⟨w.heap.size, 1, none⟩ = some (.slice h.a1 h.n1 h.c1) ∧ x.cell? ⟨w.heap.size, 2, none⟩ = some (.bool h.b) ∧ x.cell? ⟨w.heap.size, 3, none⟩ = some (.slice h.a2 h.n2 h.c2) ∧ x.cell? ⟨w.heap.size, 4, none⟩ = some (.int .i64 ep) ∧ x.cell? ⟨w.heap.size, 5, none⟩ = some (.slice la ln lc) ∧ x.cell? ⟨w.heap.size, 6, none⟩ = some (.int .i64 su) ∧ x.cell? ⟨w.heap.size, 7, none⟩ = some (.slice fa fn fc) ∧ x.cell? ⟨w.heap.size, 8, none⟩ = some (.int .i64 ha) ∧ x.cell? ⟨w4.heap.size, 0, none⟩ = some (.slice hx.a0 hx.n0 hx.c0) ∧ x.cell? ⟨w4.heap.size, 1, none⟩ = some (.slice hx.a1 hx.n1 hx.c1) ∧ x.cell? ⟨w4.heap.size, 2, none⟩ = some (.bool hx.b) ∧ x.cell? ⟨w4.heap.size, 3, none⟩ = some (.slice hx.a2 hx.n2 hx.c2) ∧ x.cell? ⟨w4.heap.size, 4, none⟩ = some (.int .i64 ep) ∧ x.cell? ⟨w4.heap.size, 5, none⟩ = some (.slice lx ln lcx) ∧ x.cell? ⟨w4.heap.size, 6, none⟩ = some (.int .i64 su) ∧ x.cell? ⟨w4.heap.size, 7, none⟩ = some (.slice fx fn fcx) ∧ x.cell? ⟨w4.heap.size, 8, none⟩ = some (.int .i64 ha))
    (first | exact ⟨far6 hb8 (far6 hb7 x0), far6 hb8 (far6 hb7 x1), far6 hb8 (far6 hb7 x2), far6 hb8 (far6 hb7 x3), far6 hb8 (far6 hb7 x4), far6 hb8 (far6 hb7 x5), far6 hb8 (far6 hb7 x6), far6 hb8 (far6 hb7 x7), far6 hb8 (far6 hb7 x8), far6 hb8 (far6 hb7 u0), far6 hb8 (far6 hb7 u1), far6 hb8 (far6 hb7 u2), far6 hb8 (far6 hb7 u3), far6 hb8 (far6 hb7 u4), far6 hb8 (far6 hb7 u5), far6 hb8 (far6 hb7 u6), far6 hb8 (far6 hb7 u7), far6 hb8 (far6 hb7 u8)⟩ | exact ⟨far6 hb7 x0, far6 hb7 x1, far6 hb7 x2, far6 hb7 x3, far6 hb7 x4, far6 hb7 x5, far6 hb7 x6, far6 hb7 x7, far6 hb7 x8, far6 hb7 u0, far6 hb7 u1, far6 hb7 u2, far6 hb7 u3, far6 hb7 u4, far6 hb7 u5, far6 hb7 u6, far6 hb7 u7, far6 hb7 u8⟩ | go_keep)
    (first | (go_at_call 24; refine (C2.out FS.out _ (below_drewN B6.out _)).mono ?_; rintro e wa ⟨⟨h7, l7, lc7, f7, fc7, g7, rfl, s7, o7⟩, hb7⟩)
           | (go_at_call 19; refine (CE.out _ ((Below.refl _ _).drew.trans hb7) h7 l7 lc7 f7 fc7 g7 s7 o7).mono ?_; rintro e w8 ⟨rfl, hb8⟩))
  have hb : Below w6.heap.size w6 w8 := ((Below.refl w6.heap.size w6).drew.trans hb7).trans (hb8.mono hb7.size)
  have B8 : Hid (Below w.heap.size w w8) := B6.out.trans (hb.mono B6.out.size)
  clear hb hb7 hb8 o7 s7 x0 x1 x2 x3 x4 x5 x6 x7 x8 u0 u1 u2 u3 u4 u5 u6 u7 u8
  go_wp2
  go_ret
  exact ⟨rfl, B8.out⟩

end Go.Proofs.YtpomedfofnceeaaDoor
namespace Go.Proofs.YtpomedfofnceeaaDoor
open Go Go.RowKit Go.ChangeShapes Go.WideShapes Go.Deep Go.WideElems

attribute [local go_sem ↓] Go.wp_at_zero Go.wp_at_succ

theorem rdV_of_row {α : Type} {w : World} {x : Addr} {len cap : Nat} {zs : List α} (f : α → Value) (d : α) (hl : len ≤ cap) (hz : zs.length = cap) (hcell : ∀ i, i < zs.length → w.cell? (x.add i) = some (f (zs.getD i d))) : RdV w (some x) len ((zs.take len).map f) := by
  refine ⟨by simp; omega, fun h => ?_⟩
  obtain ⟨b, off, spot⟩ := x
  have hc := hcell 0 (by omega)
  have hspot : spot = none := by simpa [Addr.add] using World.cell?_spot hc
  subst hspot
  refine ⟨b, off, rfl, World.block_lt_of_cell? w ⟨b, off, none⟩ (by have := hc; rwa [addr_add] at this), fun i hi => ?_⟩
  have := hcell i (by omega)
  rw [addr_add] at this
  rw [this, map_get f (zs.take len) d i (by simp; omega), List.getD_eq_getElem?_getD, List.getD_eq_getElem?_getD, List.getElem?_take_of_lt hi]
set_option maxRecDepth 100000 in
theorem open_pendings {H : Type} {enc : TypeId × Value → H} {P : Program} {w : World} {base : Nat} {spare : Nat → Bool} {held : Bool} {t e : TypeId} {fuel : Nat} {cs : List Value} {x : DataW H × List MemPlace} {f0 f1 : Field}
    (ht : P.underlying t = some (.slice e)) (hs : P.underlying e = some (.struct #[f0, f1])) (hone : oneCellFields P #[f0, f1] = true) (hC : P.cellsOf e = 2)
    (u0 : P.underlying f0.type = some (.int .i64)) (u1 : P.underlying f1.type = some .string)
    (h : DataW.trod enc P w base spare held fuel t cs = some x) :
    cs = [.slice none 0 0] ∨ ∃ (a : Addr) (len cap : Nat) (vs : List PP), cs = [.slice (some a) len cap] ∧ len ≤ maxLen ∧ RdP w (some a) len vs ∧ ∀ v ∈ vs, v.2.size ≤ maxLen := by
  rcases Go.Deep.open_slice ht h with ⟨h0, _⟩ | ⟨a, len, cap, m, n, D, Pl, hcs, hb, hl, hm, he, hx, hc⟩
  · exact .inl h0
  · right
    have hlm : len ≤ m := by rw [he]; split <;> omega
    have hone' : ∀ i, i < len → ∃ v : PP, (w.cell? (a.add (i * 2)) = some (.int .i64 v.1) ∧ w.cell? (a.add (i * 2 + 1)) = some (.string v.2)) ∧ v.2.size ≤ maxLen := by
      intro i hi
      obtain ⟨cs', h1, h2⟩ := hc i (by omega)
      rw [hC] at h1
      obtain ⟨_, hl3, hg⟩ := World.cells?_some h1
      obtain ⟨xs, n', _, _, _, hlen, hf⟩ := DataW.trod_struct hs h2
      obtain ⟨o0, k0⟩ := hone_of hone 0 f0 rfl
      obtain ⟨o1, k1⟩ := hone_of hone 1 f1 rfl
      match xs, hlen, cs', hl3 with
      | [y0, y1], _, [c0, c1], _ =>
        have g0 := hf 0 f0 rfl
        have g1 := hf 1 f1 rfl
        have g0' : DataW.trod enc P w base spare held n' f0.type [c0] = some y0 := by simpa [o0, k0] using g0
        have g1' : DataW.trod enc P w base spare held n' f1.type [c1] = some y1 := by simpa [o1, k1] using g1
        obtain ⟨z0, e0, _, _⟩ := DataW.trod_int u0 g0'
        obtain ⟨s2, e2, _, ws⟩ := DataW.trod_string u1 g1'
        simp at e0 e2
        subst e0 e2
        have q0 := hg 0 (by omega)
        have q1 := hg 1 (by omega)
        rw [Go.Deep.add_add] at q0 q1
        exact ⟨(z0, s2), ⟨q0, q1⟩, ws⟩
    obtain ⟨f, hf⟩ := Go.Deep.choose_lt (α := PP) hone'
    refine ⟨a, len, cap, (List.range len).map f, hcs, by omega, ⟨by simp, fun hpos => ?_⟩, ?_⟩
    · obtain ⟨b, off, spot⟩ := a
      have hc0 := (hf 0 hpos).1.1
      have hspot : spot = none := by simpa [Addr.add] using World.cell?_spot hc0
      subst hspot
      refine ⟨b, off, rfl, World.block_lt_of_cell? w ⟨b, off, none⟩ (by have := hc0; rwa [addr_add, show off + 0 * 2 = off by omega] at this), fun i hi => ?_⟩
      have hg := (hf i hi).1
      rw [addr_add, addr_add] at hg
      have hd : ((List.range len).map f).getD i dP = f i := by rw [List.getD_eq_getElem?_getD, List.getElem?_map, List.getElem?_range hi]; rfl
      rw [hd]
      exact hg
    · intro v hv
      obtain ⟨i, hi, rfl⟩ := List.mem_map.1 hv
      exact (hf i (List.mem_range.1 hi)).2
set_option maxRecDepth 100000 in
theorem open_texts {H : Type} {enc : TypeId × Value → H} {w : World} {held : Bool} {fuel : Nat} {v : Value} {x : DataW H × List MemPlace} (h : DataW.trod enc Tryd.prog w 0 (fun _ => true) held fuel 22 [v] = some x) :
    ∃ a n c, ∃ ss : List ByteArray, v = .slice a n c ∧ RdV w a n (ss.map Value.string) ∧ n ≤ maxLen ∧ ∀ s ∈ ss, s.size ≤ maxLen := by
  rcases open_strings Tryd.underlying22 Tryd.underlying9 (by kernel_rfl) h with ⟨hcs, _⟩ | ⟨x, l, c, ss, hcs, _, hl, hm, hz, _, hcell, hwz⟩
  · simp at hcs
    exact ⟨none, 0, 0, [], hcs, ⟨rfl, fun h => absurd h (by omega)⟩, by unfold maxLen; omega, fun _ h => by cases h⟩
  · simp at hcs
    exact ⟨some x, l, c, _, hcs, rdV_of_row Value.string _ hl (by simpa using hz) hcell, by omega, fun s h => hwz s (List.mem_of_mem_take h)⟩
set_option maxRecDepth 100000 in
theorem open_numbers {H : Type} {enc : TypeId × Value → H} {w : World} {held : Bool} {fuel : Nat} {v : Value} {x : DataW H × List MemPlace} (h : DataW.trod enc Tryd.prog w 0 (fun _ => true) held fuel 24 [v] = some x) :
    ∃ a n c, ∃ zs : List Int, v = .slice a n c ∧ RdV w a n (zs.map (Value.int .i64)) ∧ n ≤ maxLen := by
  rcases open_ints Tryd.underlying24 Tryd.underlying3 (by kernel_rfl) h with ⟨hcs, _⟩ | ⟨x, l, c, zs, hcs, _, hl, hm, hz, _, hcell, hwz⟩
  · simp at hcs
    exact ⟨none, 0, 0, [], hcs, ⟨rfl, fun h => absurd h (by omega)⟩, by unfold maxLen; omega⟩
  · simp at hcs
    exact ⟨some x, l, c, _, hcs, rdV_of_row (Value.int .i64) _ hl (by simpa using hz) hcell, by omega⟩
set_option maxRecDepth 100000 in
theorem open_disk {H : Type} {enc : TypeId × Value → H} {w : World} {held : Bool} {r : Reach} {b0 : Nat} {v : Value} {d : DataW H} {p : List MemPlace} (hv : Value.okWide Tryd.prog w r b0 47 v) (h : DataW.Trod enc Tryd.prog w 0 (fun _ => true) held 47 v d p) :
    ∃ (h : HD) (D : DD), v = .agg #[.slice h.a0 h.n0 h.c0, .slice h.a1 h.n1 h.c1, .bool h.b, .slice h.a2 h.n2 h.c2] ∧ RdD w h D ∧ h.n0 ≤ maxLen ∧ h.n1 ≤ maxLen ∧ h.n2 ≤ maxLen ∧ (∀ s ∈ D.S, s.size ≤ maxLen) ∧ ∀ p ∈ D.C, p.2.size ≤ maxLen := by
  obtain ⟨v0, v1, v2, v3, y0, y1, y2, y3, n, rfl, _, _, h0, h1, h2, h3⟩ := Go.Joins.open_agg4 Tryd.underlying47 (by kernel_rfl) (by kernel_rfl) hv h
  obtain ⟨a0, n0, c0, ss, rfl, r0, m0, s0⟩ := open_texts h0
  obtain ⟨a2, n2, c2, zs, rfl, r2, m2⟩ := open_numbers h3
  obtain ⟨b, e2, _⟩ := DataW.trod_bool Tryd.underlying4 h2
  simp at e2
  subst e2
  obtain ⟨a1, n1, c1, vs, rfl, r1, m1, s1⟩ : ∃ a n c, ∃ vs : List PP, v1 = .slice a n c ∧ RdP w a n vs ∧ n ≤ maxLen ∧ ∀ p ∈ vs, p.2.size ≤ maxLen := by
    rcases open_pendings Tryd.underlying45 Tryd.underlying163 (by kernel_rfl) (by kernel_rfl) Tryd.underlying3 Tryd.underlying9 h1 with hcs | ⟨x, l, c, vs, hcs, hm, hr, hz⟩
    · simp at hcs
      exact ⟨none, 0, 0, [], hcs, ⟨rfl, fun h => absurd h (by omega)⟩, by unfold maxLen; omega, fun _ h => by cases h⟩
    · simp at hcs
      exact ⟨some x, l, c, vs, hcs, hr, hm, hz⟩
  exact ⟨⟨a0, n0, c0, a1, n1, c1, b, a2, n2, c2⟩, ⟨ss, vs, b, zs⟩, rfl, ⟨rfl, r0, r1, r2⟩, m0, m1, m2, s0, s1⟩

end Go.Proofs.YtpomedfofnceeaaDoor
namespace Go.Proofs.YtpomedfofnceeaaDoor
open Go Go.RowKit Go.ChangeShapes Go.WideShapes Go.Deep Go.WideElems

theorem array9 {α : Type} {cs : Array α} (h : cs.size = 9) : ∃ c0 c1 c2 c3 c4 c5 c6 c7 c8, cs = #[c0, c1, c2, c3, c4, c5, c6, c7, c8] := by
  obtain ⟨l⟩ := cs
  match l, h with
  | [c0, c1, c2, c3, c4, c5, c6, c7, c8], _ => exact ⟨c0, c1, c2, c3, c4, c5, c6, c7, c8, rfl⟩
theorem cells3i : Tryd.prog.cellsOf 3 = 1 := by kernel_rfl
theorem cells4i : Tryd.prog.cellsOf 4 = 1 := by kernel_rfl
theorem cells9i : Tryd.prog.cellsOf 9 = 1 := by kernel_rfl
theorem cellsSS : Tryd.prog.cellsOf 22 = 1 := by kernel_rfl
theorem cellsSI : Tryd.prog.cellsOf 24 = 1 := by kernel_rfl
theorem cellsSP : Tryd.prog.cellsOf 45 = 1 := by kernel_rfl
theorem cellsSR : Tryd.prog.cellsOf 48 = 1 := by kernel_rfl
theorem cellsSF : Tryd.prog.cellsOf 49 = 1 := by kernel_rfl
theorem cellsPG : Tryd.prog.cellsOf 84 = 2 := by kernel_rfl
theorem cellsLD : Tryd.prog.cellsOf 47 = 4 := by kernel_rfl
theorem cellsLR : Tryd.prog.cellsOf 72 = 10 := by kernel_rfl
theorem cellsLF : Tryd.prog.cellsOf 154 = 5 := by kernel_rfl
set_option maxRecDepth 100000 in
theorem texts_of {H : Type} {enc : TypeId × Value → H} {w : World} {held : Bool} {fuel : Nat} {cs : List Value} {x : DataW H × List MemPlace} (h : DataW.trod enc Tryd.prog w 0 (fun _ => true) held fuel 22 cs = some x) :
    ∃ a n c, ∃ ss : List ByteArray, cs = [.slice a n c] ∧ RdV w a n (ss.map Value.string) ∧ n ≤ maxLen ∧ ∀ s ∈ ss, s.size ≤ maxLen := by
  rcases open_strings Tryd.underlying22 Tryd.underlying9 (by kernel_rfl) h with ⟨hcs, _⟩ | ⟨x, l, c, ss, hcs, _, hl, hm, hz, _, hcell, hwz⟩
  · exact ⟨none, 0, 0, [], hcs, ⟨rfl, fun h => absurd h (by omega)⟩, by unfold maxLen; omega, fun _ h => by cases h⟩
  · exact ⟨some x, l, c, _, hcs, rdV_of_row Value.string _ hl (by simpa using hz) hcell, by omega, fun s h => hwz s (List.mem_of_mem_take h)⟩
set_option maxRecDepth 100000 in
theorem numbers_of {H : Type} {enc : TypeId × Value → H} {w : World} {held : Bool} {fuel : Nat} {cs : List Value} {x : DataW H × List MemPlace} (h : DataW.trod enc Tryd.prog w 0 (fun _ => true) held fuel 24 cs = some x) :
    ∃ a n c, ∃ zs : List Int, cs = [.slice a n c] ∧ RdV w a n (zs.map (Value.int .i64)) ∧ n ≤ maxLen := by
  rcases open_ints Tryd.underlying24 Tryd.underlying3 (by kernel_rfl) h with ⟨hcs, _⟩ | ⟨x, l, c, zs, hcs, _, hl, hm, hz, _, hcell, hwz⟩
  · exact ⟨none, 0, 0, [], hcs, ⟨rfl, fun h => absurd h (by omega)⟩, by unfold maxLen; omega⟩
  · exact ⟨some x, l, c, _, hcs, rdV_of_row (Value.int .i64) _ hl (by simpa using hz) hcell, by omega⟩
set_option maxRecDepth 100000 in
theorem pendings_of {H : Type} {enc : TypeId × Value → H} {w : World} {held : Bool} {fuel : Nat} {cs : List Value} {x : DataW H × List MemPlace} (h : DataW.trod enc Tryd.prog w 0 (fun _ => true) held fuel 45 cs = some x) :
    ∃ a n c, ∃ vs : List PP, cs = [.slice a n c] ∧ RdP w a n vs ∧ n ≤ maxLen ∧ ∀ p ∈ vs, p.2.size ≤ maxLen := by
  rcases open_pendings Tryd.underlying45 Tryd.underlying163 (by kernel_rfl) (by kernel_rfl) Tryd.underlying3 Tryd.underlying9 h with hcs | ⟨x, l, c, vs, hcs, hm, hr, hz⟩
  · exact ⟨none, 0, 0, [], hcs, ⟨rfl, fun h => absurd h (by omega)⟩, by unfold maxLen; omega, fun _ h => by cases h⟩
  · exact ⟨some x, l, c, vs, hcs, hr, hm, hz⟩
set_option maxRecDepth 100000 in
theorem disk_of {H : Type} {enc : TypeId × Value → H} {w : World} {held : Bool} {fuel : Nat} {c0 c1 c2 c3 : Value} {x : DataW H × List MemPlace} (h : DataW.trod enc Tryd.prog w 0 (fun _ => true) held fuel 47 [c0, c1, c2, c3] = some x) :
    ∃ (h : HD) (D : DD), c0 = .slice h.a0 h.n0 h.c0 ∧ c1 = .slice h.a1 h.n1 h.c1 ∧ c2 = .bool h.b ∧ c3 = .slice h.a2 h.n2 h.c2 ∧ RdD w h D ∧ h.n0 ≤ maxLen ∧ h.n1 ≤ maxLen ∧ h.n2 ≤ maxLen ∧ (∀ s ∈ D.S, s.size ≤ maxLen) ∧ ∀ p ∈ D.C, p.2.size ≤ maxLen := by
  obtain ⟨xs, n, _, _, _, hlen, hff⟩ := DataW.trod_struct Tryd.underlying47 h
  have g : ∀ i, i < 4 → ∃ y, xs[i]? = some y := fun i hi => ⟨_, List.getElem?_eq_getElem (by rw [hlen]; exact hi)⟩
  obtain ⟨y0, hy0⟩ := g 0 (by omega)
  obtain ⟨y1, hy1⟩ := g 1 (by omega)
  obtain ⟨y2, hy2⟩ := g 2 (by omega)
  obtain ⟨y3, hy3⟩ := g 3 (by omega)
  obtain ⟨a0, n0, k0, ss, e0, r0, m0, s0⟩ := texts_of ((hff 0 _ rfl).trans hy0)
  obtain ⟨a1, n1, k1, vs, e1, r1, m1, s1⟩ := pendings_of ((hff 1 _ rfl).trans hy1)
  obtain ⟨b, e2, _⟩ := DataW.trod_bool Tryd.underlying4 ((hff 2 _ rfl).trans hy2)
  obtain ⟨a2, n2, k2, zs, e3, r2, m2⟩ := numbers_of ((hff 3 _ rfl).trans hy3)
  simp [cells4i, cellsSS, cellsSI, cellsSP] at e0 e1 e2 e3
  exact ⟨⟨a0, n0, k0, a1, n1, k1, b, a2, n2, k2⟩, ⟨ss, vs, b, zs⟩, e0, e1, e2, e3, ⟨rfl, r0, r1, r2⟩, m0, m1, m2, s0, s1⟩
set_option maxRecDepth 100000 in
theorem recs_of {H : Type} {enc : TypeId × Value → H} {w : World} {held : Bool} {fuel : Nat} {cs : List Value} {x : DataW H × List MemPlace} (h : DataW.trod enc Tryd.prog w 0 (fun _ => true) held fuel 48 cs = some x) :
    ∃ a n c, ∃ vs : List DR, cs = [.slice a n c] ∧ RdQ w a n vs ∧ n ≤ maxLen ∧ ∀ v ∈ vs, v.b.size ≤ maxLen ∧ v.a.size ≤ maxLen := by
  rcases Go.Deep.open_slice Tryd.underlying48 h with ⟨h0, _⟩ | ⟨a, len, cap, m, n, D, Pl, hcs, hb, hl, hm, he, hx, hc⟩
  · exact ⟨none, 0, 0, [], h0, ⟨rfl, fun h => absurd h (by omega)⟩, by unfold maxLen; omega, fun _ h => by cases h⟩
  · have hlm : len ≤ m := by rw [he]; split <;> omega
    have hone' : ∀ i, i < len → ∃ v : DR, (∀ j, j < 10 → w.cell? (a.add (i * 10 + j)) = (cQ v)[j]?) ∧ v.b.size ≤ maxLen ∧ v.a.size ≤ maxLen := by
      intro i hi
      obtain ⟨cs', h1, h2⟩ := hc i (by omega)
      rw [cellsLR] at h1
      obtain ⟨_, hl3, hg⟩ := World.cells?_some h1
      obtain ⟨xs, n', _, _, _, hlen, hff⟩ := DataW.trod_struct Tryd.underlying72 h2
      have g : ∀ i, i < 10 → ∃ y, xs[i]? = some y := fun i hi => ⟨_, List.getElem?_eq_getElem (by rw [hlen]; exact hi)⟩
      match cs', hl3 with
      | [c0, c1, c2, c3, c4, c5, c6, c7, c8, c9], _ =>
        obtain ⟨y0, hy0⟩ := g 0 (by omega)
        obtain ⟨y1, hy1⟩ := g 1 (by omega)
        obtain ⟨y2, hy2⟩ := g 2 (by omega)
        obtain ⟨y3, hy3⟩ := g 3 (by omega)
        obtain ⟨y4, hy4⟩ := g 4 (by omega)
        obtain ⟨y5, hy5⟩ := g 5 (by omega)
        obtain ⟨y6, hy6⟩ := g 6 (by omega)
        obtain ⟨y7, hy7⟩ := g 7 (by omega)
        obtain ⟨y8, hy8⟩ := g 8 (by omega)
        obtain ⟨y9, hy9⟩ := g 9 (by omega)
        obtain ⟨k0, e0, _, _⟩ := DataW.trod_int Tryd.underlying3 ((hff 0 _ rfl).trans hy0)
        obtain ⟨k1, e1, _, _⟩ := DataW.trod_int Tryd.underlying3 ((hff 1 _ rfl).trans hy1)
        obtain ⟨k2, e2, _, _⟩ := DataW.trod_int Tryd.underlying3 ((hff 2 _ rfl).trans hy2)
        obtain ⟨k3, e3, _, _⟩ := DataW.trod_int Tryd.underlying3 ((hff 3 _ rfl).trans hy3)
        obtain ⟨k4, e4, _, _⟩ := DataW.trod_int Tryd.underlying3 ((hff 4 _ rfl).trans hy4)
        obtain ⟨k5, e5, _, _⟩ := DataW.trod_int Tryd.underlying3 ((hff 5 _ rfl).trans hy5)
        obtain ⟨k6, e6, _, _⟩ := DataW.trod_int Tryd.underlying3 ((hff 6 _ rfl).trans hy6)
        obtain ⟨k7, e7, _, _⟩ := DataW.trod_int Tryd.underlying3 ((hff 7 _ rfl).trans hy7)
        obtain ⟨k8, e8, _, m8⟩ := DataW.trod_string Tryd.underlying9 ((hff 8 _ rfl).trans hy8)
        obtain ⟨k9, e9, _, m9⟩ := DataW.trod_string Tryd.underlying9 ((hff 9 _ rfl).trans hy9)
        simp [cells3i, cells9i] at e0 e1 e2 e3 e4 e5 e6 e7 e8 e9
        subst e0 e1 e2 e3 e4 e5 e6 e7 e8 e9
        have q0 := hg 0 (by omega)
        have q1 := hg 1 (by omega)
        have q2 := hg 2 (by omega)
        have q3 := hg 3 (by omega)
        have q4 := hg 4 (by omega)
        have q5 := hg 5 (by omega)
        have q6 := hg 6 (by omega)
        have q7 := hg 7 (by omega)
        have q8 := hg 8 (by omega)
        have q9 := hg 9 (by omega)
        rw [Go.Deep.add_add] at q0 q1 q2 q3 q4 q5 q6 q7 q8 q9
        refine ⟨⟨k0, k1, k2, k3, k4, k5, k6, k7, k8, k9⟩, fun j hj => ?_, m8, m9⟩
        match j, hj with
        | 0, _ => exact q0
        | 1, _ => exact q1
        | 2, _ => exact q2
        | 3, _ => exact q3
        | 4, _ => exact q4
        | 5, _ => exact q5
        | 6, _ => exact q6
        | 7, _ => exact q7
        | 8, _ => exact q8
        | 9, _ => exact q9
    haveI : Inhabited DR := ⟨zeroR⟩
    obtain ⟨f, hf⟩ := Go.Deep.choose_lt (α := DR) hone'
    refine ⟨some a, len, cap, (List.range len).map f, hcs, ⟨by simp, fun hpos => ?_⟩, by omega, ?_⟩
    · obtain ⟨b, off, spot⟩ := a
      have hc0 := (hf 0 hpos).1 0 (by omega)
      have hspot : spot = none := by simpa [Addr.add] using World.cell?_spot hc0
      subst hspot
      refine ⟨b, off, rfl, World.block_lt_of_cell? w ⟨b, off, none⟩ (by have := hc0; rwa [addr_add, show off + (0 * 10 + 0) = off by omega] at this), fun i hi j hj => ?_⟩
      have hg := (hf i hi).1 j hj
      rw [addr_add, show off + (i * 10 + j) = off + i * 10 + j by omega] at hg
      have hd : ((List.range len).map f).getD i zeroR = f i := by rw [List.getD_eq_getElem?_getD, List.getElem?_map, List.getElem?_range hi]; rfl
      rw [hd]
      exact hg
    · intro v hv
      obtain ⟨i, hi, rfl⟩ := List.mem_map.1 hv
      exact (hf i (List.mem_range.1 hi)).2
set_option maxRecDepth 100000 in
theorem page_of {H : Type} {enc : TypeId × Value → H} {w : World} {held : Bool} {fuel : Nat} {cs : List Value} {x : DataW H × List MemPlace} (h : DataW.trod enc Tryd.prog w 0 (fun _ => true) held fuel 84 cs = some x) (hl : cs.length = 2) :
    ∃ (p : G.HG) (D : G.DG), cs = [.int .i64 p.l, .slice p.a p.n p.c] ∧ G.RdG w p D ∧ p.n ≤ maxLen ∧ ∀ s ∈ D.S, s.size ≤ maxLen := by
  obtain ⟨xs, n, _, _, _, hlen, hff⟩ := DataW.trod_struct Tryd.underlying84 h
  have g : ∀ i, i < 2 → ∃ y, xs[i]? = some y := fun i hi => ⟨_, List.getElem?_eq_getElem (by rw [hlen]; exact hi)⟩
  match cs, hl with
  | [c0, c1], _ =>
    obtain ⟨y0, hy0⟩ := g 0 (by omega)
    obtain ⟨y1, hy1⟩ := g 1 (by omega)
    obtain ⟨k0, e0, _, _⟩ := DataW.trod_int Tryd.underlying3 ((hff 0 _ rfl).trans hy0)
    obtain ⟨a1, n1, k1, ss, e1, r1, m1, s1⟩ := texts_of ((hff 1 _ rfl).trans hy1)
    simp [cells3i, cellsSS] at e0 e1
    subst e0 e1
    exact ⟨⟨k0, a1, n1, k1⟩, ⟨k0, ss⟩, rfl, ⟨rfl, r1⟩, m1, s1⟩
set_option maxRecDepth 100000 in
theorem frames_of {H : Type} {enc : TypeId × Value → H} {w : World} {held : Bool} {fuel : Nat} {cs : List Value} {x : DataW H × List MemPlace} (h : DataW.trod enc Tryd.prog w 0 (fun _ => true) held fuel 49 cs = some x) :
    ∃ a n c, ∃ fs : List FF, cs = [.slice a n c] ∧ RdF w a n fs ∧ n ≤ maxLen ∧ ∀ i, i < n → (fs.getD i zeroF).h.n ≤ maxLen ∧ ∀ s ∈ (fs.getD i zeroF).D.S, s.size ≤ maxLen := by
  rcases Go.Deep.open_slice Tryd.underlying49 h with ⟨h0, _⟩ | ⟨a, len, cap, m, n, D, Pl, hcs, hb, hl, hm, he, hx, hc⟩
  · exact ⟨none, 0, 0, [], h0, ⟨rfl, fun h => absurd h (by omega), fun i h => absurd h (by omega)⟩, by unfold maxLen; omega, fun i h => absurd h (by omega)⟩
  · have hlm : len ≤ m := by rw [he]; split <;> omega
    have hone' : ∀ i, i < len → ∃ v : FF, (∀ j, j < 5 → w.cell? (a.add (i * 5 + j)) = (cF v)[j]?) ∧ G.RdG w v.h v.D ∧ v.h.n ≤ maxLen ∧ ∀ s ∈ v.D.S, s.size ≤ maxLen := by
      intro i hi
      obtain ⟨cs', h1, h2⟩ := hc i (by omega)
      rw [cellsLF] at h1
      obtain ⟨_, hl3, hg⟩ := World.cells?_some h1
      obtain ⟨xs, n', _, _, _, hlen, hff⟩ := DataW.trod_struct Tryd.underlying154 h2
      have g : ∀ i, i < 4 → ∃ y, xs[i]? = some y := fun i hi => ⟨_, List.getElem?_eq_getElem (by rw [hlen]; exact hi)⟩
      match cs', hl3 with
      | [c0, c1, c2, c3, c4], _ =>
        obtain ⟨y0, hy0⟩ := g 0 (by omega)
        obtain ⟨y1, hy1⟩ := g 1 (by omega)
        obtain ⟨y2, hy2⟩ := g 2 (by omega)
        obtain ⟨y3, hy3⟩ := g 3 (by omega)
        obtain ⟨k0, e0, _, _⟩ := DataW.trod_int Tryd.underlying3 ((hff 0 _ rfl).trans hy0)
        obtain ⟨pg, DG, e1, rg, mg, sg⟩ := page_of ((hff 1 _ rfl).trans hy1) (by simp [cellsPG])
        obtain ⟨b, e2, _⟩ := DataW.trod_bool Tryd.underlying4 ((hff 2 _ rfl).trans hy2)
        obtain ⟨k3, e3, _, _⟩ := DataW.trod_int Tryd.underlying3 ((hff 3 _ rfl).trans hy3)
        simp [cells3i, cells4i, cellsPG] at e0 e1 e2 e3
        obtain ⟨e1a, e1b⟩ := e1
        subst e0 e1a e1b e2 e3
        have q0 := hg 0 (by omega)
        have q1 := hg 1 (by omega)
        have q2 := hg 2 (by omega)
        have q3 := hg 3 (by omega)
        have q4 := hg 4 (by omega)
        rw [Go.Deep.add_add] at q0 q1 q2 q3 q4
        refine ⟨⟨k0, pg, DG, b, k3⟩, fun j hj => ?_, rg, mg, sg⟩
        match j, hj with
        | 0, _ => exact q0
        | 1, _ => exact q1
        | 2, _ => exact q2
        | 3, _ => exact q3
        | 4, _ => exact q4
    haveI : Inhabited FF := ⟨zeroF⟩
    obtain ⟨f, hf⟩ := Go.Deep.choose_lt (α := FF) hone'
    have hd : ∀ i, i < len → ((List.range len).map f).getD i zeroF = f i := fun i hi => by rw [List.getD_eq_getElem?_getD, List.getElem?_map, List.getElem?_range hi]; rfl
    refine ⟨some a, len, cap, (List.range len).map f, hcs, ⟨by simp, fun hpos => ?_, fun i hi => by rw [hd i hi]; exact (hf i hi).2.1⟩, by omega, fun i hi => by rw [hd i hi]; exact (hf i hi).2.2⟩
    obtain ⟨b, off, spot⟩ := a
    have hc0 := (hf 0 hpos).1 0 (by omega)
    have hspot : spot = none := by simpa [Addr.add] using World.cell?_spot hc0
    subst hspot
    refine ⟨b, off, rfl, World.block_lt_of_cell? w ⟨b, off, none⟩ (by have := hc0; rwa [addr_add, show off + (0 * 5 + 0) = off by omega] at this), fun i hi => ?_⟩
    have hg := fun j hj => (hf i hi).1 j hj
    simp only [addr_add] at hg
    have hg' : ∀ j, j < 5 → w.cell? ⟨b, off + i * 5 + j, none⟩ = (cF (f i))[j]? := fun j hj => by rw [show off + i * 5 + j = off + (i * 5 + j) by omega]; exact hg j hj
    rw [hd i hi]
    exact ⟨hg' 0 (by omega), hg' 1 (by omega), hg' 2 (by omega), hg' 3 (by omega), hg' 4 (by omega)⟩
set_option maxRecDepth 100000 in
theorem open_store {H : Type} {enc : TypeId × Value → H} {w : World} {held : Bool} {r : Reach} {b0 : Nat} {v : Value} {d : DataW H} {p : List MemPlace} (hv : Value.okWide Tryd.prog w r b0 51 v) (h : DataW.Trod enc Tryd.prog w 0 (fun _ => true) held 51 v d p) :
    ∃ (h : HD) (D : DD) (ep : Int) (la : Option Addr) (ln lc : Nat) (L : List DR) (su : Int) (fa : Option Addr) (fn fc : Nat) (F : List FF) (ha : Int), v = .agg #[.slice h.a0 h.n0 h.c0, .slice h.a1 h.n1 h.c1, .bool h.b, .slice h.a2 h.n2 h.c2, .int .i64 ep, .slice la ln lc, .int .i64 su, .slice fa fn fc, .int .i64 ha] ∧ RdD w h D ∧ (h.n0 ≤ maxLen ∧ h.n1 ≤ maxLen ∧ h.n2 ≤ maxLen ∧ (∀ s ∈ D.S, s.size ≤ maxLen) ∧ ∀ p ∈ D.C, p.2.size ≤ maxLen) ∧ RdQ w la ln L ∧ ln ≤ maxLen ∧ (∀ v ∈ L, v.b.size ≤ maxLen ∧ v.a.size ≤ maxLen) ∧ RdF w fa fn F ∧ fn ≤ maxLen ∧ ∀ i, i < fn → (F.getD i zeroF).h.n ≤ maxLen ∧ ∀ s ∈ (F.getD i zeroF).D.S, s.size ≤ maxLen := by
  obtain ⟨cs, rfl, hsz⟩ := okWide_struct Tryd.underlying51 hv
  obtain ⟨c0, c1, c2, c3, c4, c5, c6, c7, c8, rfl⟩ := array9 (hsz.trans (by kernel_rfl))
  obtain ⟨fuel, hf⟩ := h
  obtain ⟨xs, n, _, _, _, hlen, hff⟩ := DataW.trod_struct Tryd.underlying51 hf
  have g : ∀ i, i < 6 → ∃ y, xs[i]? = some y := fun i hi => ⟨_, List.getElem?_eq_getElem (by rw [hlen]; exact hi)⟩
  obtain ⟨y0, hy0⟩ := g 0 (by omega)
  obtain ⟨y1, hy1⟩ := g 1 (by omega)
  obtain ⟨y2, hy2⟩ := g 2 (by omega)
  obtain ⟨y3, hy3⟩ := g 3 (by omega)
  obtain ⟨y4, hy4⟩ := g 4 (by omega)
  obtain ⟨y5, hy5⟩ := g 5 (by omega)
  have q0 := (hff 0 _ rfl).trans hy0
  obtain ⟨ep, e1, _, _⟩ := DataW.trod_int Tryd.underlying3 ((hff 1 _ rfl).trans hy1)
  obtain ⟨la, ln, lc, L, e2, r2, m2, s2⟩ := recs_of ((hff 2 _ rfl).trans hy2)
  obtain ⟨su, e3, _, _⟩ := DataW.trod_int Tryd.underlying3 ((hff 3 _ rfl).trans hy3)
  obtain ⟨fa, fn, fc, F, e4, r4, m4, s4⟩ := frames_of ((hff 4 _ rfl).trans hy4)
  obtain ⟨ha, e5, _, _⟩ := DataW.trod_int Tryd.underlying3 ((hff 5 _ rfl).trans hy5)
  simp [Value.cells, cells3i, cellsSR, cellsSF, cellsLD] at e1 e2 e3 e4 e5 q0
  subst e1 e2 e3 e4 e5
  obtain ⟨h, D, rfl, rfl, rfl, rfl, rd, mm⟩ := disk_of q0
  exact ⟨h, D, ep, la, ln, lc, L, su, fa, fn, fc, F, ha, rfl, rd, mm, r2, m2, s2, r4, m4, s4⟩

end Go.Proofs.YtpomedfofnceeaaDoor
