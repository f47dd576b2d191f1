/-
  A branch is told as a node.
-/
import Derived.Test.YthnggpjgajkaeaaQa
import Derived.Test.YthnggpjgajkaeaaOb
namespace Go.Proofs.Ythnggpjgajkaeaa
open Go Go.RowKit
attribute [local go_sem ↓] Go.wp_at_zero Go.wp_at_succ

theorem own_neT {w : World} {base e size n m c g : Nat} {t : TypeId} {a : Option Addr} {xs : List Value} {cs : Array Value} (h : w.ownsRow base e size (.slice a m c) n xs) (hb : Box w g t cs) (he : e ≠ t := by decide) : ob a ≠ some g := by
  intro hg
  rcases h.2 with ⟨h1, _⟩ | ⟨g', cp, cur, h1, _, h3, _⟩
  · cases h1; cases hg
  · cases h1; cases hg
    unfold Box at hb
    rw [h3] at hb
    simp only [Option.some.injEq, Obj.cells.injEq] at hb
    exact he hb.2.1
theorem own_setT {w : World} {base e size n m c g : Nat} {t : TypeId} {a : Option Addr} {xs : List Value} {cs : Array Value} (h : w.ownsRow base e size (.slice a m c) n xs) (hb : Box w g t cs) (he : e ≠ t := by decide) {i : Nat} {v : Value} : (w.setCell ⟨g, i, none⟩ v).ownsRow base e size (.slice a m c) n xs :=
  own_same h fun g' e' => Below.heap_setCell w ⟨g, i, none⟩ v g' (fun ex => own_neT h hb he (by rw [ob_slice] at e'; rw [e']; exact congrArg some ex))
theorem cell_put3 {w : World} {b o g : Nat} {u v0 v1 v2 : Value} (h : w.cell? ⟨b, o, none⟩ = some u) (hne : b ≠ g) : (((w.setCell ⟨g, 0, none⟩ v0).setCell ⟨g, 1, none⟩ v1).setCell ⟨g, 2, none⟩ v2).cell? ⟨b, o, none⟩ = some u :=
  (World.cell?_of_block (w := w) (a := ⟨b, o, none⟩) ((Below.heap_setCell _ _ _ _ hne).trans ((Below.heap_setCell _ _ _ _ hne).trans (Below.heap_setCell _ _ _ _ hne)))).trans h
theorem infoI1 : (Try.prog.info? 3).map (fun i => (i.zero, i.size, i.bytes)) = some (some (Value.int .i64 0), 1, 8) := by kernel_rfl
/-- A branch with its keys; the kids' places are told. -/
structure NodeIn (w : World) (p : Nat) (ks : List ByteArray) (us : List Nat) (π : Nat → Nat) : Prop where
  few : us.length ≤ 5
  keys : ks.length ≤ 4096
  flat : ∃ ka kc ia ic pl, Box w p 88 #[.slice ka ks.length kc, .slice ia us.length ic, .int .i64 pl] ∧ RdV w ka ks.length (ks.map Value.string) ∧ (ka = none → kc = 0) ∧ RdV w ia us.length (us.map ptr)
  place : ∀ u ∈ us, w.cell? ⟨u, 2, none⟩ = some (.int .i64 (π u : Int))
def AnsNd (w : World) (ks : List ByteArray) (js : List Nat) (e : Ending) (w' : World) : Prop := ∃ v : TNode, e = .returned (.agg #[.bool v.lf, .slice v.ka v.kn v.kc, .slice v.ia v.im v.ic]) ∧ v = ⟨decide (js.length = 0), v.ka, ks.length, v.kc, ks, v.ia, js.length, v.ic, js.map fun (u : Nat) => (u : Int)⟩ ∧ OwnN1 w' w.heap.size w'.heap.size v
set_option maxRecDepth 100000 in
set_option maxHeartbeats 8000000 in
theorem c_nodeN (p : Nat) (ks : List ByteArray) (us : List Nat) (π : Nat → Nat) (w : World) (h : NodeIn w p ks us π) :
    Calls Try.prog 64 #[.pointer (some ⟨p, 0, none⟩)] w fun e w' => AnsNd w ks (us.map π) e w' ∧ Below w.heap.size w w' := by
  obtain ⟨h5, hk9, ⟨ka, kc, ia, ic, pl, hB, rk, hkn, ri⟩, hpl⟩ := h
  obtain ⟨i0, hi, hz0, hz1, hz2⟩ := info_parts infoI1
  have HI : Hid (Try.prog.info? 3 = some i0) := hi
  have HZ0 : Hid (i0.zero = some (.int .i64 0)) := hz0
  have HZ1 : Hid (i0.size = 1) := hz1
  have HZ2 : Hid (i0.bytes = 8) := hz2
  have hpw : p < w.heap.size := hB.lt
  obtain ⟨m, hm⟩ : ∃ m, us.length = m := ⟨_, rfl⟩
  obtain ⟨n, hn⟩ : ∃ n, ks.length = n := ⟨_, rfl⟩
  have HM : Hid (us.length = m) := hm
  have HN : Hid (ks.length = n) := hn
  rw [hm] at h5 hB ri
  rw [hn] at hk9 hB rk
  obtain ⟨V, hV⟩ : ∃ V, w.alloc (.cells #[.bool false, .slice none 0 0, .slice none 0 0] 72) = V := ⟨_, rfl⟩
  have bV : Below w.heap.size w V := by rw [← hV]; exact (Below.refl _ _).alloc (Nat.le_refl _) _
  have SV : V.heap.size = w.heap.size + 1 := by rw [← hV]; simp
  have XV : Hid (Box V w.heap.size 72 #[.bool false, .slice none 0 0, .slice none 0 0]) := by unfold Hid; rw [← hV]; exact Box.new _ _ _
  have HV : Hid (Box V p 88 #[.slice ka n kc, .slice ia m ic, .int .i64 pl]) := hB.belowS bV
  have BV : Hid (Below w.heap.size w V) := bV
  have BD : Below w.heap.size w V.drew := bV.drew
  have PL : Hid (∀ u ∈ us, w.cell? ⟨u, 2, none⟩ = some (.int .i64 (π u : Int))) := hpl
  have RI : Hid (RdV w ia m (us.map ptr)) := ri
  have C1 : Hid (∀ W, W.cell? ⟨p, 1, none⟩ = some (.slice ia m ic) → Calls Try.prog 66 #[.pointer (some ⟨p, 0, none⟩)] W fun e w' => e = .returned (.bool (decide (m = 0))) ∧ w' = W) := fun W hW => c_leafB p ia m ic W hW h5
  have C2 : Hid (∀ W, Below w.heap.size w W → Calls Try.prog 67 #[.slice ka n kc] W fun e w' => (∃ a' c', e = .returned (.slice a' n c') ∧ w'.ownsRow W.heap.size 9 1 (.slice a' n c') n (ks.map Value.string)) ∧ Below W.heap.size W w') := fun W hW => c_copyS ka n kc ks W (rk.below hW) (by omega) hkn
  have x0 : V.cell? ⟨p, 0, none⟩ = some (.slice ka n kc) := HV.out.cell 0
  have x1 : V.cell? ⟨p, 1, none⟩ = some (.slice ia m ic) := HV.out.cell 1
  have D0 : Hid (V.drew.cell? ⟨p, 0, none⟩ = some (.slice ka n kc)) := x0
  have D1 : Hid (V.drew.cell? ⟨p, 1, none⟩ = some (.slice ia m ic)) := x1
  have A0 : Hid ((V.drew.alloc (.cells #[.bool false, .slice none 0 0, .slice none 0 0] 72)).cell? ⟨p, 0, none⟩ = some (.slice ka n kc)) := far6 (w := V.drew) ((Below.refl _ _).alloc (Nat.le_refl _) _) x0
  have A1 : Hid ((V.drew.alloc (.cells #[.bool false, .slice none 0 0, .slice none 0 0] 72)).cell? ⟨p, 1, none⟩ = some (.slice ia m ic)) := far6 (w := V.drew) ((Below.refl _ _).alloc (Nat.le_refl _) _) x1
  clear bV hB hpl rk ri hi hz0 hz1 hz2 hm hn hkn
  have PNE : p ≠ w.heap.size + 1 := by have := HV.out.lt; have := hpw; omega
  clear hpw
  go_enter Try.func64, Try.ntmps64
  go_wp2_with fail
  go_region_held3 (fun x => x.cell? ⟨p, 0, none⟩ = some (.slice ka n kc) ∧ x.cell? ⟨p, 1, none⟩ = some (.slice ia m ic))
    (first | ((with_reducible refine ⟨cell_put3 ?_ PNE, cell_put3 ?_ PNE⟩) <;> first | exact far6 hb3 A0.out | exact far6 hb3 A1.out) | (with_reducible exact ⟨x0, x1⟩) | (with_reducible exact ⟨D0.out, D1.out⟩) | (with_reducible exact ⟨A0.out, A1.out⟩) | exact ⟨far6 hb3 D0.out, far6 hb3 D1.out⟩ | exact ⟨far6 hb3 A0.out, far6 hb3 A1.out⟩ | exact ⟨far6 (hb3.alloc hb3.size _) D0.out, far6 (hb3.alloc hb3.size _) D1.out⟩   | go_keep)
    (first
      | (go_at_call 67
         refine (C2.out _ ?_).mono ?_
         · first | exact BD | exact BD.alloc BD.size _
         rintro e w3 ⟨⟨ka', kc', rfl, ho3⟩, hb3⟩
         first
           | (have X3 : Box w3 (w.heap.size + 1) 72 #[.bool false, .slice none 0 0, .slice none 0 0] := by rw [← SV]; exact (Box.new V.drew _ _).belowS hb3
              have a0 : w3.cell? ⟨w.heap.size + 1, 0, none⟩ = some (.bool false) := X3.cell 0
              have a1 : w3.cell? ⟨w.heap.size + 1, 1, none⟩ = some (.slice none 0 0) := X3.cell 1
              have a2 : w3.cell? ⟨w.heap.size + 1, 2, none⟩ = some (.slice none 0 0) := X3.cell 2
              have e0 := X3.thaw 0
              have e1 := X3.thaw 1
              have e2 := X3.thaw 2)
           | skip)
      | (go_at_call 66
         refine (C1.out _ ?_).mono ?_
         · first | (with_reducible exact x1) | (with_reducible exact D1.out) | (with_reducible exact A1.out) | exact A1.out | exact far6 hb3 D1.out | exact far6 hb3 A1.out | exact far6 (hb3.alloc hb3.size _) D1.out | (with_reducible exact cell_put3 (far6 hb3 A1.out) PNE) | (with_reducible exact cell_put3 (far6 (hb3.alloc hb3.size _) D1.out) PNE)
         rintro e w' ⟨rfl, hq⟩; have hq' := hq.symm; subst hq'; clear hq))
  · obtain ⟨U, hU⟩ : ∃ U, w3.alloc (.cells #[.bool (decide (m = 0)), .slice ka' n kc', .slice none 0 0] 72) = U := ⟨_, rfl⟩
    rw [hU]
    have B3 : Below w.heap.size w w3 := BD.trans (hb3.mono BD.size)
    have b3U : Below w3.heap.size w3 U := by rw [← hU]; exact (Below.refl _ _).alloc (Nat.le_refl _) _
    have BU0 : Below w.heap.size w U := B3.trans (b3U.mono B3.size)
    have XU0 : Box U w3.heap.size 72 #[.bool (decide (m = 0)), .slice ka' n kc', .slice none 0 0] := by rw [← hU]; exact Box.new _ _ _
    have OU0 : U.ownsRow w.heap.size 9 1 (.slice ka' n kc') n (ks.map Value.string) := own_below (own_low ho3 (by show w.heap.size ≤ V.heap.size; omega)) b3U
    have XR0 : Box U w.heap.size 72 #[.bool false, .slice none 0 0, .slice none 0 0] := ((XV.out.drewN 1).belowS hb3).belowS b3U
    have NB0 : w3.heap.size ≠ w.heap.size ∧ w.heap.size ≤ w3.heap.size := by have := hb3.size; have h1 : V.drew.heap.size = V.heap.size := rfl; rw [h1] at this; omega
    have y10 : U.cell? ⟨p, 1, none⟩ = some (.slice ia m ic) := far6 b3U (far6 hb3 D1.out)
    obtain ⟨bx, hbx⟩ : ∃ bx, w3.heap.size = bx := ⟨_, rfl⟩
    rw [hbx] at XU0 NB0 ⊢
    clear hbx B3 b3U ho3 hb3 hU x0 x1 D0 D1 A0 A1 C1 C2 XV HV BV BD
    have BU : Hid (Below w.heap.size w U) := BU0
    have OU : Hid (U.ownsRow w.heap.size 9 1 (.slice ka' n kc') n (ks.map Value.string)) := OU0
    have XU : Hid (Box U bx 72 #[.bool (decide (m = 0)), .slice ka' n kc', .slice none 0 0]) := XU0
    have XR : Hid (Box U w.heap.size 72 #[.bool false, .slice none 0 0, .slice none 0 0]) := XR0
    have NB : Hid (bx ≠ w.heap.size ∧ w.heap.size ≤ bx) := NB0
    have y1 : U.cell? ⟨p, 1, none⟩ = some (.slice ia m ic) := y10
    clear BU0 OU0 XU0 XR0 NB0 y10
    go_wp2_with fail
    go_loopw [19] (fun i wr => ∃ (j : Nat) (ia' : Option Addr) (ic' : Nat), j ≤ m ∧ i = .int .i64 j ∧ Hid (Box wr bx 72 #[.bool (decide (m = 0)), .slice ka' n kc', .slice ia' j ic']) ∧ Hid (wr.ownsRow w.heap.size 3 1 (.slice ia' j ic') j (((us.map π).take j).map fun (u : Nat) => Value.int .i64 (u : Int))) ∧ Hid (wr.ownsRow w.heap.size 9 1 (.slice ka' n kc') n (ks.map Value.string)) ∧ Hid (Box wr w.heap.size 72 #[.bool false, .slice none 0 0, .slice none 0 0]) ∧ Hid (Below w.heap.size w wr)) (fun i _ => m - (intOf i).toNat)
    case atStart => exact ⟨0, none, 0, by omega, rfl, XU.out, World.ownsRow_nil _ _ _ _, OU.out, XR.out, BU.out⟩
    case round =>
      obtain ⟨j, ja, jc, hj, rfl, XB, OJ, OK, XZ, BW⟩ := hrel
      rename World => wr
      by_cases hlt : j < m
      · obtain ⟨q, hq⟩ : ∃ q, us[j]? = some q := ⟨_, List.getElem?_eq_getElem (by have := HM.out; omega)⟩
        obtain ⟨b, off, rfl, hbl, hc⟩ := RI.out.2 (by omega)
        have d0 : wr.cell? ⟨b, off + j, none⟩ = some (.pointer (some ⟨q, 0, none⟩)) := by
          rw [BW.out.cell (p := ⟨b, off + j, none⟩) hbl, hc j hlt]; exact map_ptr hq
        have d1 : wr.cell? ⟨q, 2, none⟩ = some (.int .i64 (π q : Int)) := far6 BW.out (PL.out q (List.mem_of_getElem? hq))
        obtain ⟨sv, hsv⟩ : ∃ sv, π q = sv := ⟨_, rfl⟩
        rw [hsv] at d1
        have HSV : Hid ((us.map π).take j ++ [sv] = (us.map π).take (j + 1)) := by
          unfold Hid
          rw [List.take_add_one, List.getElem?_map, hq, ← hsv]; rfl
        have x2 : wr.cell? ⟨bx, 2, none⟩ = some (.slice ja j jc) := XB.out.cell 2
        have szr : w.heap.size < wr.heap.size := XZ.out.lt
        obtain ⟨VA, hVA⟩ : ∃ VA, wr.drew.alloc (.cells #[.int .i64 (sv : Int)] 3) = VA := ⟨_, rfl⟩
        have bA : Below wr.heap.size wr VA := by rw [← hVA]; exact (Below.refl _ _).drew.alloc (Nat.le_refl _) _
        have BA : Hid (Below w.heap.size w VA) := BW.out.trans (bA.mono BW.out.size)
        have XA : Hid (Box VA bx 72 #[.bool (decide (m = 0)), .slice ka' n kc', .slice ja j jc]) := XB.out.belowS bA
        have ZA : Hid (Box VA w.heap.size 72 #[.bool false, .slice none 0 0, .slice none 0 0]) := XZ.out.belowS bA
        have OA : Hid (VA.ownsRow w.heap.size 3 1 (.slice ja j jc) j (((us.map π).take j).map fun (u : Nat) => Value.int .i64 (u : Int))) := own_below OJ.out bA
        have KA : Hid (VA.ownsRow w.heap.size 9 1 (.slice ka' n kc') n (ks.map Value.string)) := own_below OK.out bA
        have NA : Hid (VA.cell? ⟨wr.heap.size, 0, none⟩ = some (.int .i64 (sv : Int))) := by unfold Hid; rw [← hVA]; exact (Box.new wr.drew _ _).cell 0
        have a2 : VA.cell? ⟨bx, 2, none⟩ = some (.slice ja j jc) := XA.out.cell 2
        have sA : w.heap.size ≤ VA.heap.size := BA.out.size
        clear hq hsv bA XB OJ OK XZ hc hbl
        go_wp2_with fail
        go_region_law (refine step_app_any _ (by rfl) (.tmp 24) (.tmp 29) 70 (by rfl) w.heap.size 3 i0 (.int .i64 0) 1 8 Try.underlying70 HI.out HZ0.out HZ1.out HZ2.out rfl (by omega) (.slice ja j jc) j (((us.map π).take j).map fun (u : Nat) => Value.int .i64 (u : Int)) (by rfl) OA.out (some ⟨wr.heap.size, 0, none⟩) 1 1 [.int .i64 (sv : Int)] (by rfl) (fun ex => by cases ex) rfl (fun ad e => by cases e; intro k u hu; cases k with | zero => (cases hu; exact NA.out) | succ k => simp at hu) (by intro u hu; simp at hu; subst hu; rfl) (by unfold maxLen; omega) (by omega) sA ?_
                       intro l2 lc2 w5 ho hgx hax
                       have HO5 : Hid (w5.ownsRow w.heap.size 3 1 (.slice l2 (j + 1) lc2) (j + 1) (((us.map π).take (j + 1)).map fun (u : Nat) => Value.int .i64 (u : Int))) := by unfold Hid; rw [← HSV.out, List.map_append]; exact ho
                       have hgx' : VA.grownBy w5 (ob ja) := by rw [ob_slice] at hgx; exact hgx
                       have X5 : Box w5 bx 72 #[.bool (decide (m = 0)), .slice ka' n kc', .slice ja j jc] := XA.out.grown hgx' (own_neT OA.out XA.out)
                       have HX5 : Hid (Box w5 bx 72 #[.bool (decide (m = 0)), .slice ka' n kc', .slice ja j jc]) := X5
                       have HZ5 : Hid (Box w5 w.heap.size 72 #[.bool false, .slice none 0 0, .slice none 0 0]) := ZA.out.grown hgx' (own_neT OA.out ZA.out)
                       have HK5 : Hid (w5.ownsRow w.heap.size 9 1 (.slice ka' n kc') n (ks.map Value.string)) := own_same KA.out fun g e => hgx'.block g (own_blk KA.out g (by rw [ob_slice] at e; exact e)).2 (fun ex => own_ne KA.out OA.out (by decide) g (by rw [ob_slice] at e; exact e) ex.symm)
                       have HB5 : Hid (Below w.heap.size w w5) := BA.out.grown hgx' BA.out.size (fun g hg => (own_blk OA.out g hg).1)
                       have c50 : w5.cell? ⟨bx, 2, none⟩ = some (.slice ja j jc) := X5.cell 2
                       have t50 := X5.thaw 2
                       clear ho hgx hgx' hax X5)
        all_goals
          go_wp2
          go_roundw
          case rel => exact ⟨j + 1, l2, lc2, by omega, by go_num, HX5.out.set 2 _, own_setT HO5.out HX5.out, own_setT HK5.out HX5.out, HZ5.out.setOther _ _ NB.out.1.symm, HB5.out.setCell NB.out.2 _⟩
          case measure => simp [intOf]; omega
      · obtain rfl : j = m := by omega
        have z0 := XB.out.cell 0
        have z1 := XB.out.cell 1
        have z2 := XB.out.cell 2
        have y0 := XZ.out.cell 0
        have y2 := XZ.out.cell 1
        have y3 := XZ.out.cell 2
        have t0 := XZ.out.thaw 0
        have t1 := XZ.out.thaw 1
        have t2 := XZ.out.thaw 2
        go_wp2
        refine retN Try.results64 rfl rfl (put3_box XZ.out _ _ _) ⟨⟨⟨decide ((us.map π).length = 0), ka', ks.length, kc', ks, ja, (us.map π).length, jc, (us.map π).map fun (u : Nat) => (u : Int)⟩, ?_, rfl, ?_⟩, put3_below BW.out (Nat.le_refl _) _ _ _⟩
        · rw [List.length_map, HM.out, HN.out]
        · have hjl : (us.map π).length = j := by rw [List.length_map, HM.out]
          have oj : wr.ownsRow w.heap.size 3 1 (.slice ja j jc) j (((us.map π).map fun (u : Nat) => (u : Int)).map (Value.int .i64)) := by
            have o := OJ.out
            rw [List.take_of_length_le (by omega)] at o
            rw [List.map_map]; exact o
          have s3 : ∀ {a : Option Addr} {e nn c : Nat} {xs : List Value}, e ≠ 72 → wr.ownsRow w.heap.size e 1 (.slice a nn c) nn xs → ((((wr).setCell ⟨w.heap.size, 0, none⟩ (.bool (decide (j = 0)))).setCell ⟨w.heap.size, 1, none⟩ (.slice ka' n kc')).setCell ⟨w.heap.size, 2, none⟩ (.slice ja j jc)).ownsRow w.heap.size e 1 (.slice a nn c) nn xs := fun he h => own_setT (own_setT (own_setT h XZ.out he) (XZ.out.set 0 _) he) ((XZ.out.set 0 _).set 1 _) he
          refine ⟨?_, ?_, ?_, ?_⟩
          · dsimp only; rw [HN.out]; exact s3 (by decide) OK.out
          · dsimp only; rw [hjl]; exact s3 (by decide) oj
          · intro g hg; have := own_blk OK.out g hg; simpa using this
          · intro g hg; have := own_blk oj g hg; simpa using this
  all_goals
    obtain ⟨U, hU⟩ : ∃ U, (((w3.setCell ⟨w.heap.size + 1, 0, none⟩ (.bool (decide (m = 0)))).setCell ⟨w.heap.size + 1, 1, none⟩ (.slice ka' n kc')).setCell ⟨w.heap.size + 1, 2, none⟩ (.slice none 0 0)) = U := ⟨_, rfl⟩
    rw [hU]
    have BD1 : Below w.heap.size w (V.drew.alloc (.cells #[.bool false, .slice none 0 0, .slice none 0 0] 72)) := BD.alloc BD.size _
    have B3 : Below w.heap.size w w3 := BD1.trans (hb3.mono BD1.size)
    have BU0 : Below w.heap.size w U := by rw [← hU]; exact put3_below B3 (Nat.le_succ _) _ _ _
    have XU0 : Box U (w.heap.size + 1) 72 #[.bool (decide (m = 0)), .slice ka' n kc', .slice none 0 0] := by rw [← hU]; exact put3_box X3 _ _ _
    have OU0 : U.ownsRow w.heap.size 9 1 (.slice ka' n kc') n (ks.map Value.string) := by rw [← hU]; exact own_setT (own_setT (own_setT (own_low ho3 BD1.size) X3) (X3.set 0 _)) ((X3.set 0 _).set 1 _)
    have XR0 : Box U w.heap.size 72 #[.bool false, .slice none 0 0, .slice none 0 0] := by rw [← hU]; exact (((((XV.out.drewN 1).alloc _).belowS hb3).setOther _ _ (Nat.ne_of_lt (Nat.lt_succ_self _))).setOther _ _ (Nat.ne_of_lt (Nat.lt_succ_self _))).setOther _ _ (Nat.ne_of_lt (Nat.lt_succ_self _))
    have NB0 : w.heap.size + 1 ≠ w.heap.size ∧ w.heap.size ≤ w.heap.size + 1 := by omega
    have y10 : U.cell? ⟨p, 1, none⟩ = some (.slice ia m ic) := by rw [← hU]; exact cell_put3 (far6 hb3 A1.out) PNE
    obtain ⟨bx, hbx⟩ : ∃ bx, w.heap.size + 1 = bx := ⟨_, rfl⟩
    clear x0 x1 D0 D1 A0 A1 C1 C2 XV HV BV BD B3 BD1 ho3 hb3 hU X3 a0 a1 a2 e0 e1 e2 SV PNE
    rw [hbx] at XU0 NB0 ⊢
    clear hbx
    have BU : Hid (Below w.heap.size w U) := BU0
    have OU : Hid (U.ownsRow w.heap.size 9 1 (.slice ka' n kc') n (ks.map Value.string)) := OU0
    have XU : Hid (Box U bx 72 #[.bool (decide (m = 0)), .slice ka' n kc', .slice none 0 0]) := XU0
    have XR : Hid (Box U w.heap.size 72 #[.bool false, .slice none 0 0, .slice none 0 0]) := XR0
    have NB : Hid (bx ≠ w.heap.size ∧ w.heap.size ≤ bx) := NB0
    have y1 : U.cell? ⟨p, 1, none⟩ = some (.slice ia m ic) := y10
    clear BU0 OU0 XU0 XR0 NB0 y10
    go_wp2_with fail
    go_loopw [19] (fun i wr => ∃ (j : Nat) (ia' : Option Addr) (ic' : Nat), j ≤ m ∧ i = .int .i64 j ∧ Hid (Box wr bx 72 #[.bool (decide (m = 0)), .slice ka' n kc', .slice ia' j ic']) ∧ Hid (wr.ownsRow w.heap.size 3 1 (.slice ia' j ic') j (((us.map π).take j).map fun (u : Nat) => Value.int .i64 (u : Int))) ∧ Hid (wr.ownsRow w.heap.size 9 1 (.slice ka' n kc') n (ks.map Value.string)) ∧ Hid (Box wr w.heap.size 72 #[.bool false, .slice none 0 0, .slice none 0 0]) ∧ Hid (Below w.heap.size w wr)) (fun i _ => m - (intOf i).toNat)
    case atStart => exact ⟨0, none, 0, by omega, rfl, XU.out, World.ownsRow_nil _ _ _ _, OU.out, XR.out, BU.out⟩
    case round =>
      obtain ⟨j, ja, jc, hj, rfl, XB, OJ, OK, XZ, BW⟩ := hrel
      rename World => wr
      by_cases hlt : j < m
      · obtain ⟨q, hq⟩ : ∃ q, us[j]? = some q := ⟨_, List.getElem?_eq_getElem (by have := HM.out; omega)⟩
        obtain ⟨b, off, rfl, hbl, hc⟩ := RI.out.2 (by omega)
        have d0 : wr.cell? ⟨b, off + j, none⟩ = some (.pointer (some ⟨q, 0, none⟩)) := by
          rw [BW.out.cell (p := ⟨b, off + j, none⟩) hbl, hc j hlt]; exact map_ptr hq
        have d1 : wr.cell? ⟨q, 2, none⟩ = some (.int .i64 (π q : Int)) := far6 BW.out (PL.out q (List.mem_of_getElem? hq))
        obtain ⟨sv, hsv⟩ : ∃ sv, π q = sv := ⟨_, rfl⟩
        rw [hsv] at d1
        have HSV : Hid ((us.map π).take j ++ [sv] = (us.map π).take (j + 1)) := by
          unfold Hid
          rw [List.take_add_one, List.getElem?_map, hq, ← hsv]; rfl
        have x2 : wr.cell? ⟨bx, 2, none⟩ = some (.slice ja j jc) := XB.out.cell 2
        have szr : w.heap.size < wr.heap.size := XZ.out.lt
        obtain ⟨VA, hVA⟩ : ∃ VA, wr.drew.alloc (.cells #[.int .i64 (sv : Int)] 3) = VA := ⟨_, rfl⟩
        have bA : Below wr.heap.size wr VA := by rw [← hVA]; exact (Below.refl _ _).drew.alloc (Nat.le_refl _) _
        have BA : Hid (Below w.heap.size w VA) := BW.out.trans (bA.mono BW.out.size)
        have XA : Hid (Box VA bx 72 #[.bool (decide (m = 0)), .slice ka' n kc', .slice ja j jc]) := XB.out.belowS bA
        have ZA : Hid (Box VA w.heap.size 72 #[.bool false, .slice none 0 0, .slice none 0 0]) := XZ.out.belowS bA
        have OA : Hid (VA.ownsRow w.heap.size 3 1 (.slice ja j jc) j (((us.map π).take j).map fun (u : Nat) => Value.int .i64 (u : Int))) := own_below OJ.out bA
        have KA : Hid (VA.ownsRow w.heap.size 9 1 (.slice ka' n kc') n (ks.map Value.string)) := own_below OK.out bA
        have NA : Hid (VA.cell? ⟨wr.heap.size, 0, none⟩ = some (.int .i64 (sv : Int))) := by unfold Hid; rw [← hVA]; exact (Box.new wr.drew _ _).cell 0
        have a2 : VA.cell? ⟨bx, 2, none⟩ = some (.slice ja j jc) := XA.out.cell 2
        have sA : w.heap.size ≤ VA.heap.size := BA.out.size
        clear hq hsv bA XB OJ OK XZ hc hbl
        go_wp2_with fail
        go_region_law (refine step_app_any _ (by rfl) (.tmp 24) (.tmp 29) 70 (by rfl) w.heap.size 3 i0 (.int .i64 0) 1 8 Try.underlying70 HI.out HZ0.out HZ1.out HZ2.out rfl (by omega) (.slice ja j jc) j (((us.map π).take j).map fun (u : Nat) => Value.int .i64 (u : Int)) (by rfl) OA.out (some ⟨wr.heap.size, 0, none⟩) 1 1 [.int .i64 (sv : Int)] (by rfl) (fun ex => by cases ex) rfl (fun ad e => by cases e; intro k u hu; cases k with | zero => (cases hu; exact NA.out) | succ k => simp at hu) (by intro u hu; simp at hu; subst hu; rfl) (by unfold maxLen; omega) (by omega) sA ?_
                       intro l2 lc2 w5 ho hgx hax
                       have HO5 : Hid (w5.ownsRow w.heap.size 3 1 (.slice l2 (j + 1) lc2) (j + 1) (((us.map π).take (j + 1)).map fun (u : Nat) => Value.int .i64 (u : Int))) := by unfold Hid; rw [← HSV.out, List.map_append]; exact ho
                       have hgx' : VA.grownBy w5 (ob ja) := by rw [ob_slice] at hgx; exact hgx
                       have X5 : Box w5 bx 72 #[.bool (decide (m = 0)), .slice ka' n kc', .slice ja j jc] := XA.out.grown hgx' (own_neT OA.out XA.out)
                       have HX5 : Hid (Box w5 bx 72 #[.bool (decide (m = 0)), .slice ka' n kc', .slice ja j jc]) := X5
                       have HZ5 : Hid (Box w5 w.heap.size 72 #[.bool false, .slice none 0 0, .slice none 0 0]) := ZA.out.grown hgx' (own_neT OA.out ZA.out)
                       have HK5 : Hid (w5.ownsRow w.heap.size 9 1 (.slice ka' n kc') n (ks.map Value.string)) := own_same KA.out fun g e => hgx'.block g (own_blk KA.out g (by rw [ob_slice] at e; exact e)).2 (fun ex => own_ne KA.out OA.out (by decide) g (by rw [ob_slice] at e; exact e) ex.symm)
                       have HB5 : Hid (Below w.heap.size w w5) := BA.out.grown hgx' BA.out.size (fun g hg => (own_blk OA.out g hg).1)
                       have c50 : w5.cell? ⟨bx, 2, none⟩ = some (.slice ja j jc) := X5.cell 2
                       have t50 := X5.thaw 2
                       clear ho hgx hgx' hax X5)
        all_goals
          go_wp2
          go_roundw
          case rel => exact ⟨j + 1, l2, lc2, by omega, by go_num, HX5.out.set 2 _, own_setT HO5.out HX5.out, own_setT HK5.out HX5.out, HZ5.out.setOther _ _ NB.out.1.symm, HB5.out.setCell NB.out.2 _⟩
          case measure => simp [intOf]; omega
      · obtain rfl : j = m := by omega
        have z0 := XB.out.cell 0
        have z1 := XB.out.cell 1
        have z2 := XB.out.cell 2
        have y0 := XZ.out.cell 0
        have y2 := XZ.out.cell 1
        have y3 := XZ.out.cell 2
        have t0 := XZ.out.thaw 0
        have t1 := XZ.out.thaw 1
        have t2 := XZ.out.thaw 2
        go_wp2
        refine retN Try.results64 rfl rfl (put3_box XZ.out _ _ _) ⟨⟨⟨decide ((us.map π).length = 0), ka', ks.length, kc', ks, ja, (us.map π).length, jc, (us.map π).map fun (u : Nat) => (u : Int)⟩, ?_, rfl, ?_⟩, put3_below BW.out (Nat.le_refl _) _ _ _⟩
        · rw [List.length_map, HM.out, HN.out]
        · have hjl : (us.map π).length = j := by rw [List.length_map, HM.out]
          have oj : wr.ownsRow w.heap.size 3 1 (.slice ja j jc) j (((us.map π).map fun (u : Nat) => (u : Int)).map (Value.int .i64)) := by
            have o := OJ.out
            rw [List.take_of_length_le (by omega)] at o
            rw [List.map_map]; exact o
          have s3 : ∀ {a : Option Addr} {e nn c : Nat} {xs : List Value}, e ≠ 72 → wr.ownsRow w.heap.size e 1 (.slice a nn c) nn xs → ((((wr).setCell ⟨w.heap.size, 0, none⟩ (.bool (decide (j = 0)))).setCell ⟨w.heap.size, 1, none⟩ (.slice ka' n kc')).setCell ⟨w.heap.size, 2, none⟩ (.slice ja j jc)).ownsRow w.heap.size e 1 (.slice a nn c) nn xs := fun he h => own_setT (own_setT (own_setT h XZ.out he) (XZ.out.set 0 _) he) ((XZ.out.set 0 _).set 1 _) he
          refine ⟨?_, ?_, ?_, ?_⟩
          · dsimp only; rw [HN.out]; exact s3 (by decide) OK.out
          · dsimp only; rw [hjl]; exact s3 (by decide) oj
          · intro g hg; have := own_blk OK.out g hg; simpa using this
          · intro g hg; have := own_blk oj g hg; simpa using this

end Go.Proofs.Ythnggpjgajkaeaa
