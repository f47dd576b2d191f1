/-
  l06Round.
-/
import Derived.Test.YtmjacoocnkcilaaDoorLgd
import Derived.Deep.RegionWith
import Derived.Deep.QuietTactic
namespace Go.Proofs.YtmjacoocnkcilaaDoor
open Go Go.RowKit
attribute [local go_sem ↓] Go.wp_at_zero Go.wp_at_succ

set_option maxRecDepth 100000 in
set_option maxHeartbeats 8000000 in
theorem c_l06Round (h : HL) (vs : List LK) (ws : List WK) (x : Int) (w : World) (rd : RdL w h vs ws) (f1 : ws.length ≤ 1048576) (hall : ws.all okW = true) (hx : 1 ≤ x ∧ x ≤ 60) :
    Calls Tryd.prog 64 #[.agg #[.slice h.a0 vs.length h.c0, .slice h.a1 ws.length h.c1], .int .i64 x] w fun e w' => (∃ b : Bool, e = .returned (.bool b) ∧ (b = true ↔ Rch ws x x)) ∧ Below w.heap.size w w' := by
  have R : Hid (RdW w h.a1 ws.length ws) := rd.2
  have HALL : Hid (ws.all okW = true) := hall
  obtain ⟨i0, hi, hz0, hz1, hz2⟩ := info_parts infoI3
  obtain ⟨V, hV⟩ : ∃ V, w.alloc (.cells #[.slice h.a0 vs.length h.c0, .slice h.a1 ws.length h.c1] 34) = V := ⟨_, rfl⟩
  obtain ⟨V1, hV1⟩ : ∃ W, V.alloc (.cells #[.int .i64 x] 3) = W := ⟨_, rfl⟩
  have hb0 : Below w.heap.size w V := by rw [← hV]; exact (Below.refl _ _).alloc (Nat.le_refl _) _
  have hb1 : Below V.heap.size V V1 := by rw [← hV1]; exact (Below.refl _ _).alloc (Nat.le_refl _) _
  have B : Hid (Below w.heap.size w V1) := hb0.trans (hb1.mono hb0.size)
  have X : Hid (Box V1 w.heap.size 34 #[.slice h.a0 vs.length h.c0, .slice h.a1 ws.length h.c1]) := (show Box V w.heap.size 34 #[.slice h.a0 vs.length h.c0, .slice h.a1 ws.length h.c1] by rw [← hV]; exact Box.new _ _ _).belowS hb1
  have l0 : w.heap.size < V.heap.size := by rw [← hV]; simp
  have O : Hid (V1.ownsRow w.heap.size 3 1 (.slice (some ⟨V.heap.size, 0, none⟩) [x].length 1) [x].length ([x].map (Value.int .i64))) := by unfold Hid; rw [← hV1]; exact World.ownsRow_lit V #[.int .i64 x] 1 (by omega) (by unfold maxLen; omega) rfl
  have S0 : Hid (Sg ws x [x] 0) := Sg.begin ws x
  clear rd hall hb0 hb1
  go_enter Tryd.func64, Tryd.ntmps64
  go_wp2
  go_loopw [5, 6] (fun s q wr => ∃ (i : Nat) (L : List Int) (av : Option Addr) (cv : Nat), i ≤ L.length ∧ q = .int .i64 (i : Int) ∧ s = .slice av L.length cv ∧ Hid (Sg ws x L i) ∧ Hid (wr.ownsRow w.heap.size 3 1 (.slice av L.length cv) L.length (L.map (Value.int .i64))) ∧ Hid (Box wr w.heap.size 34 #[.slice h.a0 vs.length h.c0, .slice h.a1 ws.length h.c1]) ∧ Hid (∀ b, ob av = some b → w.heap.size < b) ∧ Hid (Below w.heap.size w wr)) (fun _ q _ => 61 - (intOf q).toNat)
  case atStart => exact ⟨0, [x], some ⟨V.heap.size, 0, none⟩, 1, by omega, rfl, rfl, S0, O, X, fun b hb => by cases hb; exact l0, B⟩
  case round =>
    obtain ⟨i, L, av, cv, hi', rfl, rfl, HS, HO, HX, HL, HB⟩ := hrel
    have hL60 := HS.out.len HALL.out hx
    by_cases hil : i < L.length
    · have SK0 : Hid (Sk ws x L i 0) := HS.out.sk hil
      have cil : (i : Int) < (L.length : Int) := by omega
      obtain ⟨i1, hi1⟩ : ∃ i1 : Nat, 61 - i = i1 := ⟨_, rfl⟩
      clear HS
      obtain ⟨x0, x1⟩ := box2 HX.out
      go_wp2
      clear x0 x1 cil
      go_loopw [5, 7] (fun s q wr => ∃ (k : Nat) (L : List Int) (av : Option Addr) (cv : Nat), k ≤ ws.length ∧ q = .int .i64 (k : Int) ∧ s = .slice av L.length cv ∧ Hid (Sk ws x L i k) ∧ Hid (wr.ownsRow w.heap.size 3 1 (.slice av L.length cv) L.length (L.map (Value.int .i64))) ∧ Hid (Box wr w.heap.size 34 #[.slice h.a0 vs.length h.c0, .slice h.a1 ws.length h.c1]) ∧ Hid (∀ b, ob av = some b → w.heap.size < b) ∧ Hid (Below w.heap.size w wr)) (fun _ q _ => ws.length - (intOf q).toNat)
      case atStart => exact ⟨0, L, av, cv, by omega, rfl, rfl, SK0, HO, HX, HL, HB⟩
      case round =>
        clear SK0 HO HX HL HB hL60 hil hi'
        obtain ⟨k, L, av, cv, hk, rfl, rfl, HS, HO, HX, HL, HB⟩ := hrel
        have hL60 := HS.out.st.len HALL.out hx
        have hil := HS.out.lt
        obtain ⟨x0, x1⟩ := box2 HX.out
        by_cases hkl : k < ws.length
        · obtain ⟨hl, hcs⟩ := R.out
          obtain ⟨ba, off, ha, hbl, hc⟩ := hcs (by omega)
          rw [ha] at x1
          clear ha
          obtain ⟨⟨vx, vf⟩, hv⟩ : ∃ v, v = ws.getD k dW := ⟨_, rfl⟩
          obtain ⟨d0, d1⟩ := hc k hkl
          rw [← hv] at d0 d1
          have e0 : wr.cell? ⟨ba, off + k * 2, none⟩ = some (.int .i64 vx) := by rw [HB.out.cell (p := ⟨ba, off + k * 2, none⟩) hbl, d0]
          have e1 : wr.cell? ⟨ba, off + k * 2 + 1, none⟩ = some (.int .i64 vf) := by rw [HB.out.cell (p := ⟨ba, off + k * 2 + 1, none⟩) hbl, d1]
          have HV : Hid ((⟨vx, vf⟩ : WK) = ws.getD k dW) := hv
          obtain ⟨w2, hw2⟩ : ∃ W, wr.alloc (.cells #[.int .i64 vx, .int .i64 vf] 59) = W := ⟨_, rfl⟩
          have hb2 : Below wr.heap.size wr w2 := by rw [← hw2]; exact (Below.refl _ _).alloc (Nat.le_refl _) _
          have K2 : Hid (Box w2 wr.heap.size 59 #[.int .i64 vx, .int .i64 vf]) := by unfold Hid; rw [← hw2]; exact Box.new _ _ _
          have X2 : Hid (Box w2 w.heap.size 34 #[.slice h.a0 vs.length h.c0, .slice h.a1 ws.length h.c1]) := HX.out.belowS hb2
          have B2 : Hid (Below w.heap.size w w2) := HB.out.trans (hb2.mono HB.out.size)
          have O2 : Hid (w2.ownsRow w.heap.size 3 1 (.slice av L.length cv) L.length (L.map (Value.int .i64))) := own_below HO.out hb2
          have lw2 : w.heap.size < w2.heap.size := X2.out.lt
          obtain ⟨q0, q1⟩ := box2 K2.out
          obtain ⟨gb, goff, ga, _, gc⟩ := (RdV.own O2.out).2 (by omega)
          have g0 := gc i hil
          obtain ⟨y, hy⟩ : ∃ y, L.getD i 0 = y := ⟨_, rfl⟩
          rw [map_get (Value.int .i64) L 0 i hil, hy] at g0
          have HY : Hid (L.getD i 0 = y) := hy
          have cil : (i : Int) < (L.length : Int) := by omega
          have GC : Hid (∀ j, j < L.length → w2.cell? ⟨gb, goff + j, none⟩ = (L.map (Value.int .i64))[j]?) := gc
          clear hc hcs d0 d1 hv hb2 HX HB HO hy gc
          subst ga
          by_cases ex : vx = y
          case neg =>
            have cx : (vx != y) = true := by simpa using ex
            have S2 : Hid (Sk ws x L i (k + 1)) := HS.out.skip hkl (fun e => by rw [← HV.out, HY.out] at e; exact absurd e ex)
            clear ex HS
            go_wp2_with fail
            go_quiet (fail)
            go_wp2
            go_roundw
            case rel => exact ⟨k + 1, L, _, cv, by omega, by go_num, rfl, S2, O2, X2, HL, by first | exact B2 | exact below_drewN B2.out _⟩
            case measure => simp [intOf]; omega
          have cx : (vx != y) = false := by simpa using ex
          have HE : Hid ((ws.getD k dW).x = L.getD i 0) := by unfold Hid; rw [← HV.out, HY.out]; exact ex
          clear ex
          by_cases ef : vf = x
          · have HR : Hid (Rch ws x x) := by
              have := HS.out.rch hkl HE.out
              rw [← HV.out] at this
              unfold Hid
              rw [← ef]; rw [← ef] at this; exact this
            have cf : (vf == x) = true := by simpa using ef
            clear ef
            go_wp2_with fail
            go_quiet (fail)
            go_wp2
            go_ret
            exact ⟨⟨true, rfl, ⟨fun _ => HR.out, fun _ => rfl⟩⟩, below_drewN B2.out _⟩
          have cf : (vf == x) = false := by simpa using ef
          have HF : Hid ((ws.getD k dW).f ≠ x) := by unfold Hid; rw [← HV.out]; exact ef
          clear ef
          go_wp2_with fail
          go_quiet (fail)
          go_wp2
          clear g0 e0 e1 x0 x1 cx cf q0 q1
          go_loopw [9, 10] (fun p q wr' => ∃ j : Nat, j ≤ L.length ∧ q = .int .i64 (j : Int) ∧ p = .bool ((L.take j).any (fun z => decide (z = vf))) ∧ Hid (Below w2.heap.size w2 wr')) (fun _ q _ => L.length - (intOf q).toNat)
          case atStart => exact ⟨0, by omega, rfl, rfl, below_drewN (Below.refl _ _) _⟩
          case round =>
            obtain ⟨j, hj, rfl, rfl, HB3⟩ := hrel
            have B3 : Hid (Below w.heap.size w wr) := B2.out.trans (HB3.out.mono B2.out.size)
            have K3 := K2.out.belowS HB3.out
            by_cases hjl : j < L.length
            · have g3 := far6 HB3.out ((GC.out j hjl).trans (map_get (Value.int .i64) L 0 j hjl))
              obtain ⟨z, hz⟩ : ∃ z, L.getD j 0 = z := ⟨_, rfl⟩
              rw [hz] at g3
              obtain ⟨p, hp⟩ : ∃ p, (L.take j).any (fun z => decide (z = vf)) = p := ⟨_, rfl⟩
              have HST : Hid ((L.take (j + 1)).any (fun z => decide (z = vf)) = (p || decide (z = vf))) := by
                unfold Hid
                rw [List.take_add_one, List.any_append, List.getElem?_eq_getElem hjl, hp, ← hz, List.getD_eq_getElem?_getD, List.getElem?_eq_getElem hjl]
                simp
              rw [hp]
              obtain ⟨q0, q1⟩ := box2 K3
              have cjl : (j : Int) < (L.length : Int) := by omega
              clear hz hp K3
              cases p
              · by_cases ez : z = vf
                · have cz : (z == vf) = true := by simpa using ez
                  have HF2 : Hid ((L.take (j + 1)).any (fun z => decide (z = vf)) = true) := by unfold Hid; rw [HST.out, decide_eq_true ez]; rfl
                  clear ez HST
                  go_wp2_with fail
                  go_quiet (fail)
                  go_wp2
                  go_roundw
                  case rel => exact ⟨j + 1, by omega, by go_num, by rw [HF2.out], below_drewN HB3.out _⟩
                  case measure => simp [intOf]; omega
                · have cz : (z == vf) = false := by simpa using ez
                  have HF2 : Hid ((L.take (j + 1)).any (fun z => decide (z = vf)) = false) := by unfold Hid; rw [HST.out, decide_eq_false ez]; rfl
                  clear ez HST
                  go_wp2_with fail
                  go_quiet (fail)
                  go_wp2
                  go_roundw
                  case rel => exact ⟨j + 1, by omega, by go_num, by rw [HF2.out], below_drewN HB3.out _⟩
                  case measure => simp [intOf]; omega
              · have HF2 : Hid ((L.take (j + 1)).any (fun z => decide (z = vf)) = true) := by unfold Hid; rw [HST.out]; rfl
                clear HST
                go_wp2_with fail
                go_quiet (fail)
                go_wp2
                go_roundw
                case rel => exact ⟨j + 1, by omega, by go_num, by rw [HF2.out], below_drewN HB3.out _⟩
                case measure => simp [intOf]; omega
            · have ej : j = L.length := by omega
              obtain ⟨p, hp⟩ : ∃ p, L.any (fun z => decide (z = vf)) = p := ⟨_, rfl⟩
              rw [ej, List.take_length, hp]
              have cge : ¬ (j : Int) < (L.length : Int) := by omega
              have X3 : Hid (Box wr w.heap.size 34 #[.slice h.a0 vs.length h.c0, .slice h.a1 ws.length h.c1]) := X2.out.belowS HB3.out
              have O3 : Hid (wr.ownsRow w.heap.size 3 1 (.slice (some ⟨gb, goff, none⟩) L.length cv) L.length (L.map (Value.int .i64))) := own_below O2.out HB3.out
              have s3 : w2.heap.size ≤ wr.heap.size := HB3.out.size
              clear ej
              cases p
              · have HN : Hid ((ws.getD k dW).f ∉ L) := by
                  unfold Hid
                  rw [← HV.out]
                  intro hm
                  have : L.any (fun z => decide (z = vf)) = true := List.any_eq_true.2 ⟨vf, hm, by simp⟩
                  rw [hp] at this; cases this
                have S2 : Hid (Sk ws x (L ++ [vf]) i (k + 1)) := by
                  have := HS.out.push hkl HE.out HF.out HN.out
                  rw [← HV.out] at this; exact this
                obtain ⟨w4, hw4⟩ : ∃ W, wr.alloc (.cells #[.int .i64 vf] 3) = W := ⟨_, rfl⟩
                have hb4 : Below wr.heap.size wr w4 := by rw [← hw4]; exact (Below.refl _ _).alloc (Nat.le_refl _) _
                have K4 : Hid (Box w4 wr.heap.size 3 #[.int .i64 vf]) := by unfold Hid; rw [← hw4]; exact Box.new _ _ _
                have O4 : Hid (w4.ownsRow w.heap.size 3 1 (.slice (some ⟨gb, goff, none⟩) L.length cv) L.length (L.map (Value.int .i64))) := own_below O3.out hb4
                have X4 : Hid (Box w4 w.heap.size 34 #[.slice h.a0 vs.length h.c0, .slice h.a1 ws.length h.c1]) := X3.out.belowS hb4
                have B4 : Hid (Below w.heap.size w w4) := B3.out.trans (hb4.mono B3.out.size)
                obtain ⟨q0, q1⟩ := box2 K3
                clear hp hb4 K3 HN HS
                go_wp2_with (at_builtin; refine app_any _ rfl (.tmp 60) (.tmp 63) 52 rfl w.heap.size 3 i0 (.int .i64 0) 1 8 Tryd.underlying52 hi hz0 hz1 hz2 rfl (by omega) (.slice (some ⟨gb, goff, none⟩) L.length cv) L.length (L.map (Value.int .i64)) rfl O4.out (some ⟨wr.heap.size, 0, none⟩) 1 1 [.int .i64 vf] rfl (fun h => by cases h) rfl (fun ad e j u hu => by cases e; rw [addr_add, Nat.zero_add, K4.out.cell]; simpa using hu) (by intro u hu; simp at hu; rw [hu]; rfl) (by unfold maxLen; omega) (by omega) B4.out.size ?_; intro a5 c5 w5 hown5 hgr5 hat5)
                rw [ob_slice] at hgr5 hat5
                have O5 : Hid (w5.ownsRow w.heap.size 3 1 (.slice a5 (L ++ [vf]).length c5) (L ++ [vf]).length ((L ++ [vf]).map (Value.int .i64))) := by unfold Hid; rw [List.length_append, List.length_singleton, List.map_append]; exact hown5
                have B5 : Hid (Below w.heap.size w w5) := B4.out.grown hgr5 B4.out.size (fun j hj => Nat.le_of_lt (HL.out j hj))
                have X5 : Hid (Box w5 w.heap.size 34 #[.slice h.a0 vs.length h.c0, .slice h.a1 ws.length h.c1]) := X4.out.grown hgr5 (fun e => absurd (HL.out _ e) (Nat.lt_irrefl _))
                have L5 : Hid (∀ b, ob a5 = some b → w.heap.size < b) := fun b hb => by
                  rcases hat5 b hb with h1 | h1
                  · exact HL.out b h1
                  · have h1' : b = w4.heap.size := h1
                    have := K4.out.lt
                    omega
                clear hown5 hgr5 hat5 O4 X4 B4 K4 q0 q1
                go_wp2
                go_roundw
                case rel => exact ⟨k + 1, L ++ [vf], a5, c5, by omega, by go_num, by rw [List.length_append, List.length_singleton], S2, O5, X5, L5, B5⟩
                case measure => simp [intOf]; omega
              · have S2 : Hid (Sk ws x L i (k + 1)) := HS.out.skip hkl (fun _ => ⟨HF.out, by
                  rw [← HV.out]
                  obtain ⟨z, hz1, hz2⟩ := List.any_eq_true.1 hp
                  have : z = vf := of_decide_eq_true hz2
                  rw [← this]; exact hz1⟩)
                clear hp K3 HS
                go_wp2
                go_roundw
                case rel => exact ⟨k + 1, L, _, cv, by omega, by go_num, rfl, S2, O3, X3, HL, B3⟩
                case measure => simp [intOf]; omega
        · have ek : k = ws.length := by omega
          have S3 : Hid (Sg ws x L (i + 1)) := by have := HS.out; rw [ek] at this; exact this.next
          have cge : ¬ (k : Int) < (ws.length : Int) := by omega
          clear ek HS
          go_wp2
          go_roundw
          case rel => exact ⟨i + 1, L, av, cv, by omega, by go_num, rfl, S3, HO, HX, HL, HB⟩
          case measure => simp [intOf]; omega
    · have ei : i = L.length := by omega
      have HD : Hid (¬ Rch ws x x) := by have := HS.out; rw [ei] at this; exact this.done
      have cge : ¬ (i : Int) < (L.length : Int) := by omega
      clear ei HS
      go_wp2
      go_ret
      first | exact ⟨.inl ⟨rfl, HD.out⟩, HB.out⟩ | exact ⟨⟨false, rfl, fun h => (by cases h), fun h => absurd h HD.out⟩, HB.out⟩

end Go.Proofs.YtmjacoocnkcilaaDoor
