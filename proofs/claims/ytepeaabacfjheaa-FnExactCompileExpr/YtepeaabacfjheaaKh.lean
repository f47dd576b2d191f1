/-
  The specification's l11Put of two parts.
-/
import Derived.Test.YtepeaabacfjheaaKg
import Derived.Deep.RegionHeld3
namespace Go.Proofs.Ytepeaabacfjheaa
open Go Go.RowKit
attribute [local go_sem ↓] Go.wp_at_zero Go.wp_at_succ

set_option linter.unusedVariables false
set_option linter.unusedSimpArgs false
theorem c_bit_true (w : World) : Calls Try.prog 26 #[.bool true] w fun e w' => e = .returned (.int .i64 1) ∧ w' = w := by
  go_enter Try.func26, Try.ntmps26
  go_wp2
  go_ret
  exact ⟨rfl, rfl⟩
theorem c_bit_false (w : World) : Calls Try.prog 26 #[.bool false] w fun e w' => e = .returned (.int .i64 0) ∧ w' = w := by
  go_enter Try.func26, Try.ntmps26
  go_wp2
  go_ret
  exact ⟨rfl, rfl⟩
theorem post_app {w W w1 : World} {B : Nat} {a a1 : Option Addr} {c1 : Nat} {M1 : List IN} {L : List EN} {n ec b off : Nat} {x : EN} (A : App W w1 B a a1 c1 M1) (E : Box W w.heap.size 31 #[.slice (some ⟨b, off, none⟩) n ec]) (X : Box W (w.heap.size + 1) 62 #[.int .i64 x.o, .int .i64 x.a, .int .i64 x.b, .int .i64 x.c, .int .i64 x.k, .int .i64 x.n, .string x.t]) (R : RdE W (some ⟨b, off, none⟩) n L) (N : ∀ g, ob a = some g → B ≤ g ∧ g ≠ w.heap.size ∧ g ≠ w.heap.size + 1) (hB : B ≤ w.heap.size) (hb : b < B) (lV : w.heap.size + 1 < W.heap.size) :
    Hid (Box w1 w.heap.size 31 #[.slice (some ⟨b, off, none⟩) n ec]) ∧ Hid (Box w1 (w.heap.size + 1) 62 #[.int .i64 x.o, .int .i64 x.a, .int .i64 x.b, .int .i64 x.c, .int .i64 x.k, .int .i64 x.n, .string x.t]) ∧ Hid (RdE w1 (some ⟨b, off, none⟩) n L) ∧ w.heap.size + 1 < w1.heap.size ∧ Hid (∀ g, ob a1 = some g → B ≤ g ∧ g ≠ w.heap.size ∧ g ≠ w.heap.size + 1) := by
  have X1 := A.box X (fun e => by have := N _ e; omega)
  refine ⟨A.box E (fun e => by have := N _ e; omega), X1, RdE.app A R (fun b' off' e q => by cases e; have := N _ q; omega), X1.lt, fun g e => ?_⟩
  rcases A.new g e with q | q
  · exact N g q
  · exact ⟨by omega, by omega, by omega⟩
--@no
set_option maxRecDepth 100000 in
set_option maxHeartbeats 4000000 in
theorem c_lp_no (L : List EN) (n : Nat) (hn : n ≤ 1048576) (k : Nat) (x : EN) (hk : k < n) (hx : x = L.getD k zeroE) (ea : Option Addr) (ec : Nat) (M : List IN) (a : Option Addr) (cap B : Nat) (w : World) (hr : RdE w ea n L) (hea : ∀ b off, ea = some ⟨b, off, none⟩ → b < B) (h : w.ownsRow B 50 5 (.slice a M.length cap) M.length (cellsI M)) (hB : B ≤ w.heap.size) (o1 : (x.o == 1) = false) (o2 : (x.o == 2) = false) (u : ¬ x.o ≤ 5) (e12 : (x.o == 12) = false) (e13 : (x.o == 13) = false) (kl kr fl fu : Nat) (l r : PT) (IH : Hid (IHS L n fu)) (hkl : kl < k) (hkr : kr < k) (hA : x.a = (kl : Int)) (hB2 : x.b = (kr : Int)) (hpl : pF L fu (kl + 1) = some (l, fl)) (hpr : pF L fu (kr + 1) = some (r, kl + 1)) (hl : M.length + 2 * l.cnt + 2 * r.cnt + 2 ≤ 1000) :
    Calls Try.prog 15 #[.agg #[.slice ea n ec], .int .i64 (k : Int), .slice a M.length cap] w fun e w' => APost w w' B a (M ++ codeP (.bin x.o l r) M.length) e := by
  obtain ⟨iI, giV, gz0, gz1, gz2⟩ := info_parts infoIns
  have hiI : Hid (Try.prog.info? 50 = some iI) := giV
  have hz0 : Hid (iI.zero = some (.agg #[.int .i64 0, .int .i64 0, .int .i64 0, .int .i64 0, .string ⟨#[]⟩])) := gz0
  have hz1 : Hid (iI.size = 5) := gz1
  have hz2 : Hid (iI.bytes = 48) := gz2
  clear giV gz0 gz1 gz2
  obtain ⟨b, off, rfl, hbl, hc⟩ := hr.2 (by omega)
  obtain ⟨d0, d1, d2, d3, d4, d5, d6⟩ := RdE.at hc hk hx
  have g1 : (0 : Int) ≤ (k : Int) := by omega
  have g2 : (k : Int) < (n : Int) := by omega
  obtain ⟨V, hV⟩ : ∃ V, (w.alloc (.cells #[.slice (some ⟨b, off, none⟩) n ec] 31)).alloc (.cells #[.int .i64 x.o, .int .i64 x.a, .int .i64 x.b, .int .i64 x.c, .int .i64 x.k, .int .i64 x.n, .string x.t] 62) = V := ⟨_, rfl⟩
  have bV : Below w.heap.size w V := by rw [← hV]; exact ((Below.refl _ _).alloc (Nat.le_refl _) _).alloc (by simp) _
  have EV : Hid (Box V w.heap.size 31 #[.slice (some ⟨b, off, none⟩) n ec]) := by unfold Hid; rw [← hV]; exact (Box.new _ _ _).alloc _
  have XV : Hid (Box V (w.heap.size + 1) 62 #[.int .i64 x.o, .int .i64 x.a, .int .i64 x.b, .int .i64 x.c, .int .i64 x.k, .int .i64 x.n, .string x.t]) := by unfold Hid; rw [← hV]; exact Box.new2 _ _ _ _
  have OV : Hid (V.ownsRow B 50 5 (.slice a M.length cap) M.length (cellsI M)) := own_below h bV
  have RV : Hid (RdE V (some ⟨b, off, none⟩) n L) := hr.below bV
  have HbV : Hid (Below w.heap.size w V) := bV
  have HBK : Hid (∀ g, ob a = some g → B ≤ g ∧ g < w.heap.size) := App.blk h
  have hbB : b < B := hea b off rfl
  have lV : w.heap.size + 1 < V.heap.size := XV.out.lt
  have lBV : B ≤ V.heap.size := by omega
  have p0 : V.cell? ⟨w.heap.size, 0, none⟩ = some (.slice (some ⟨b, off, none⟩) n ec) := EV.out.cell 0
  obtain ⟨q0, q1, q2, q3, q4, q5, q6⟩ := box7 XV.out
  clear hc hx hr h bV hea
  have CHl : Hid (∀ (W : World) (a : Option Addr) (cap : Nat) (M : List IN), RdE W (some ⟨b, off, none⟩) n L → W.ownsRow B 50 5 (.slice a M.length cap) M.length (cellsI M) → B ≤ W.heap.size → M.length + 2 * l.cnt ≤ 1000 → Calls Try.prog 15 #[.agg #[.slice (some ⟨b, off, none⟩) n ec], .int .i64 (kl : Int), .slice a M.length cap] W fun e w' => APost W w' B a (M ++ codeP l M.length) e) := fun W a cap M hR hO hW hM => IH.out kl l fl hpl (by omega) _ ec M a cap B W hR (fun b' off' e => by cases e; exact hbB) hO hW hM
  have CHr : Hid (∀ (W : World) (a : Option Addr) (cap : Nat) (M : List IN), RdE W (some ⟨b, off, none⟩) n L → W.ownsRow B 50 5 (.slice a M.length cap) M.length (cellsI M) → B ≤ W.heap.size → M.length + 2 * r.cnt ≤ 1000 → Calls Try.prog 15 #[.agg #[.slice (some ⟨b, off, none⟩) n ec], .int .i64 (kr : Int), .slice a M.length cap] W fun e w' => APost W w' B a (M ++ codeP r M.length) e) := fun W a cap M hR hO hW hM => IH.out kr r (kl + 1) hpr (by omega) _ ec M a cap B W hR (fun b' off' e => by cases e; exact hbB) hO hW hM
  have NBKV : Hid (∀ g, ob a = some g → B ≤ g ∧ g ≠ w.heap.size ∧ g ≠ w.heap.size + 1) := fun g e => by have := HBK.out g e; exact ⟨this.1, by omega, by omega⟩
  have lVV := lV
  have HAx : Hid (x.a = (kl : Int)) := hA
  have HBx : Hid (x.b = (kr : Int)) := hB2
  have HJ : Hid (jmpI x.o = 0) := by
    unfold Hid jmpI
    have f12 := e12
    have f13 := e13
    simp only [beq_iff_eq, beq_eq_false_iff_ne, ne_eq] at f12 f13
    rw [if_neg f12, if_neg f13]
  rw [hA] at q1
  clear hA hB2 hpl hpr IH hkl hkr
  go_enter Try.func15, Try.ntmps15
  have Cw1 := CHl.out V a cap M RV.out OV.out lBV (by omega)
  obtain ⟨M1, hM1⟩ : ∃ x, M ++ codeP l M.length = x := ⟨_, rfl⟩
  have hM1l : M1.length + 1 ≤ M.length + 2 * l.cnt := by rw [← hM1, List.length_append]; have := code_len l M.length; omega
  have hM1g : M1.length = M.length + (codeP l M.length).length := by rw [← hM1, List.length_append]
  have HM1G : Hid (M1.length = M.length + (codeP l M.length).length) := hM1g
  rw [hM1] at Cw1
  have HM1 : Hid (M ++ codeP l M.length = M1) := hM1
  clear hM1 hM1g
  go_wp2_with fail
  refine Cw1.mono ?_
  rintro e w1 ⟨a1, c1, rfl, Aw1⟩
  have Ew1 : Hid (Box w1 w.heap.size 31 #[.slice (some ⟨b, off, none⟩) n ec]) := Aw1.box EV.out (fun e => by have := NBKV.out _ e; omega)
  have Xw1 : Hid (Box w1 (w.heap.size + 1) 62 #[.int .i64 x.o, .int .i64 x.a, .int .i64 x.b, .int .i64 x.c, .int .i64 x.k, .int .i64 x.n, .string x.t]) := Aw1.box XV.out (fun e => by have := NBKV.out _ e; omega)
  have Ow1 : Hid (w1.ownsRow B 50 5 (.slice a1 M1.length c1) M1.length (cellsI M1)) := Aw1.own
  have Rw1 : Hid (RdE w1 (some ⟨b, off, none⟩) n L) := RdE.app Aw1 RV.out (fun b' off' e q => by cases e; have := NBKV.out _ q; omega)
  have lVw1 : w.heap.size + 1 < w1.heap.size := Xw1.out.lt
  have lBw1 : B ≤ w1.heap.size := by omega
  have NBKw1 : Hid (∀ g, ob a1 = some g → B ≤ g ∧ g ≠ w.heap.size ∧ g ≠ w.heap.size + 1) := fun g e => by
    rcases Aw1.new g e with q | q
    · exact NBKV.out g q
    · have := lVV
      exact ⟨by omega, by omega, by omega⟩
  have HAw1 : Hid (App V w1 B a a1 c1 M1) := Aw1
  clear Aw1 Cw1
  clear p0 q0 q1 q2 q3 q4 q5 q6
  have p0 : w1.cell? ⟨w.heap.size, 0, none⟩ = some (.slice (some ⟨b, off, none⟩) n ec) := Ew1.out.cell 0
  obtain ⟨q0, q1, q2, q3, q4, q5, q6⟩ := box7 Xw1.out
  rw [HBx.out] at q2
  have Cw2 := CHr.out w1 a1 c1 M1 Rw1.out Ow1.out lBw1 (by omega)
  obtain ⟨M2, hM2⟩ : ∃ x, M1 ++ codeP r M1.length = x := ⟨_, rfl⟩
  have hM2l : M2.length + 1 ≤ M1.length + 2 * r.cnt := by rw [← hM2, List.length_append]; have := code_len r M1.length; omega
  have hM2g : M2.length = M1.length + (codeP r M1.length).length := by rw [← hM2, List.length_append]
  have HM2G : Hid (M2.length = M1.length + (codeP r M1.length).length) := hM2g
  rw [hM2] at Cw2
  have HM2 : Hid (M1 ++ codeP r M1.length = M2) := hM2
  clear hM2 hM2g
  go_wp2_with fail
  refine Cw2.mono ?_
  rintro e w2 ⟨ar, cr, rfl, Aw2⟩
  have Ew2 : Hid (Box w2 w.heap.size 31 #[.slice (some ⟨b, off, none⟩) n ec]) := Aw2.box Ew1.out (fun e => by have := NBKw1.out _ e; omega)
  have Xw2 : Hid (Box w2 (w.heap.size + 1) 62 #[.int .i64 x.o, .int .i64 x.a, .int .i64 x.b, .int .i64 x.c, .int .i64 x.k, .int .i64 x.n, .string x.t]) := Aw2.box Xw1.out (fun e => by have := NBKw1.out _ e; omega)
  have Ow2 : Hid (w2.ownsRow B 50 5 (.slice ar M2.length cr) M2.length (cellsI M2)) := Aw2.own
  have Rw2 : Hid (RdE w2 (some ⟨b, off, none⟩) n L) := RdE.app Aw2 Rw1.out (fun b' off' e q => by cases e; have := NBKw1.out _ q; omega)
  have lVw2 : w.heap.size + 1 < w2.heap.size := Xw2.out.lt
  have lBw2 : B ≤ w2.heap.size := by omega
  have NBKw2 : Hid (∀ g, ob ar = some g → B ≤ g ∧ g ≠ w.heap.size ∧ g ≠ w.heap.size + 1) := fun g e => by
    rcases Aw2.new g e with q | q
    · exact NBKw1.out g q
    · have := lVw1
      exact ⟨by omega, by omega, by omega⟩
  have HAw2 : Hid (App w1 w2 B a1 ar cr M2) := Aw2
  clear Aw2 Cw2
  clear p0 q0 q1 q2 q3 q4 q5 q6
  have p0 : w2.cell? ⟨w.heap.size, 0, none⟩ = some (.slice (some ⟨b, off, none⟩) n ec) := Ew2.out.cell 0
  obtain ⟨q0, q1, q2, q3, q4, q5, q6⟩ := box7 Xw2.out
  obtain ⟨VN, hVN⟩ : ∃ W, w2.alloc (.cells #[.int .i64 4, .int .i64 x.o, .int .i64 0, .int .i64 0, .string ⟨#[]⟩] 50) = W := ⟨_, rfl⟩
  have bVN : Hid (Below w2.heap.size w2 VN) := by unfold Hid; rw [← hVN]; exact (Below.refl _ _).alloc (Nat.le_refl _) _
  have BVN : Hid (Box VN w2.heap.size 50 #[.int .i64 4, .int .i64 x.o, .int .i64 0, .int .i64 0, .string ⟨#[]⟩]) := by unfold Hid; rw [← hVN]; exact Box.new _ _ _
  have OVN : Hid (VN.ownsRow B 50 5 (.slice ar M2.length cr) M2.length (cellsI M2)) := own_below Ow2.out bVN.out
  have lVN : B ≤ VN.heap.size := by have := bVN.out.size; omega
  go_wp2_with (at_builtin; refine app_any _ rfl (.tmp 72) (.tmp 76) 26 rfl B 50 iI (.agg #[.int .i64 0, .int .i64 0, .int .i64 0, .int .i64 0, .string ⟨#[]⟩]) 5 48 Try.underlying26 hiI.out hz0.out hz1.out hz2.out rfl (by omega) (.slice ar M2.length cr) M2.length (cellsI M2) rfl OVN.out _ 1 1 (cI (⟨4, x.o, 0, 0, ⟨#[]⟩⟩ : IN)) rfl (fun ex => by cases ex) rfl (news_box (⟨4, x.o, 0, 0, ⟨#[]⟩⟩ : IN) BVN.out) (oneI _) (by unfold maxLen; omega) (by omega) lVN ?_; intro a2 c2 w5 ho5 hg5 hx5; rw [ob_slice] at hg5 hx5; have A5 : Hid (App w2 w5 B ar a2 c2 (M2 ++ [(⟨4, x.o, 0, 0, ⟨#[]⟩⟩ : IN)])) := (app_fin bVN.out ho5 hg5 hx5); clear ho5 hg5 hx5)
  go_ret
  have E : M ++ codeP (.bin x.o l r) M.length = M2 ++ [(⟨4, x.o, 0, 0, ⟨#[]⟩⟩ : IN)] := by
    rw [codeP, if_pos HJ.out, ← HM2.out, ← HM1.out]
    simp [List.append_assoc, List.length_append]
  exact ⟨a2, c2, by rw [E, snocLen]; rfl, by rw [E]; exact ((HAw1.out.trans HAw2.out).trans A5.out).pre HbV.out⟩
--@@
--@and
set_option maxRecDepth 100000 in
set_option maxHeartbeats 4000000 in
theorem c_lp_and (L : List EN) (n : Nat) (hn : n ≤ 1048576) (k : Nat) (x : EN) (hk : k < n) (hx : x = L.getD k zeroE) (ea : Option Addr) (ec : Nat) (M : List IN) (a : Option Addr) (cap B : Nat) (w : World) (hr : RdE w ea n L) (hea : ∀ b off, ea = some ⟨b, off, none⟩ → b < B) (h : w.ownsRow B 50 5 (.slice a M.length cap) M.length (cellsI M)) (hB : B ≤ w.heap.size) (o1 : (x.o == 1) = false) (o2 : (x.o == 2) = false) (u : ¬ x.o ≤ 5) (e12 : (x.o == 12) = true) (e13 : (x.o == 13) = false) (kl kr fl fu : Nat) (l r : PT) (IH : Hid (IHS L n fu)) (hkl : kl < k) (hkr : kr < k) (hA : x.a = (kl : Int)) (hB2 : x.b = (kr : Int)) (hpl : pF L fu (kl + 1) = some (l, fl)) (hpr : pF L fu (kr + 1) = some (r, kl + 1)) (hl : M.length + 2 * l.cnt + 2 * r.cnt + 2 ≤ 1000) :
    Calls Try.prog 15 #[.agg #[.slice ea n ec], .int .i64 (k : Int), .slice a M.length cap] w fun e w' => APost w w' B a (M ++ codeP (.bin x.o l r) M.length) e := by
  obtain ⟨iI, giV, gz0, gz1, gz2⟩ := info_parts infoIns
  have hiI : Hid (Try.prog.info? 50 = some iI) := giV
  have hz0 : Hid (iI.zero = some (.agg #[.int .i64 0, .int .i64 0, .int .i64 0, .int .i64 0, .string ⟨#[]⟩])) := gz0
  have hz1 : Hid (iI.size = 5) := gz1
  have hz2 : Hid (iI.bytes = 48) := gz2
  clear giV gz0 gz1 gz2
  obtain ⟨b, off, rfl, hbl, hc⟩ := hr.2 (by omega)
  obtain ⟨d0, d1, d2, d3, d4, d5, d6⟩ := RdE.at hc hk hx
  have g1 : (0 : Int) ≤ (k : Int) := by omega
  have g2 : (k : Int) < (n : Int) := by omega
  obtain ⟨V, hV⟩ : ∃ V, (w.alloc (.cells #[.slice (some ⟨b, off, none⟩) n ec] 31)).alloc (.cells #[.int .i64 x.o, .int .i64 x.a, .int .i64 x.b, .int .i64 x.c, .int .i64 x.k, .int .i64 x.n, .string x.t] 62) = V := ⟨_, rfl⟩
  have bV : Below w.heap.size w V := by rw [← hV]; exact ((Below.refl _ _).alloc (Nat.le_refl _) _).alloc (by simp) _
  have EV : Hid (Box V w.heap.size 31 #[.slice (some ⟨b, off, none⟩) n ec]) := by unfold Hid; rw [← hV]; exact (Box.new _ _ _).alloc _
  have XV : Hid (Box V (w.heap.size + 1) 62 #[.int .i64 x.o, .int .i64 x.a, .int .i64 x.b, .int .i64 x.c, .int .i64 x.k, .int .i64 x.n, .string x.t]) := by unfold Hid; rw [← hV]; exact Box.new2 _ _ _ _
  have OV : Hid (V.ownsRow B 50 5 (.slice a M.length cap) M.length (cellsI M)) := own_below h bV
  have RV : Hid (RdE V (some ⟨b, off, none⟩) n L) := hr.below bV
  have HbV : Hid (Below w.heap.size w V) := bV
  have HBK : Hid (∀ g, ob a = some g → B ≤ g ∧ g < w.heap.size) := App.blk h
  have hbB : b < B := hea b off rfl
  have lV : w.heap.size + 1 < V.heap.size := XV.out.lt
  have lBV : B ≤ V.heap.size := by omega
  have p0 : V.cell? ⟨w.heap.size, 0, none⟩ = some (.slice (some ⟨b, off, none⟩) n ec) := EV.out.cell 0
  obtain ⟨q0, q1, q2, q3, q4, q5, q6⟩ := box7 XV.out
  clear hc hx hr h bV hea
  have CHl : Hid (∀ (W : World) (a : Option Addr) (cap : Nat) (M : List IN), RdE W (some ⟨b, off, none⟩) n L → W.ownsRow B 50 5 (.slice a M.length cap) M.length (cellsI M) → B ≤ W.heap.size → M.length + 2 * l.cnt ≤ 1000 → Calls Try.prog 15 #[.agg #[.slice (some ⟨b, off, none⟩) n ec], .int .i64 (kl : Int), .slice a M.length cap] W fun e w' => APost W w' B a (M ++ codeP l M.length) e) := fun W a cap M hR hO hW hM => IH.out kl l fl hpl (by omega) _ ec M a cap B W hR (fun b' off' e => by cases e; exact hbB) hO hW hM
  have CHr : Hid (∀ (W : World) (a : Option Addr) (cap : Nat) (M : List IN), RdE W (some ⟨b, off, none⟩) n L → W.ownsRow B 50 5 (.slice a M.length cap) M.length (cellsI M) → B ≤ W.heap.size → M.length + 2 * r.cnt ≤ 1000 → Calls Try.prog 15 #[.agg #[.slice (some ⟨b, off, none⟩) n ec], .int .i64 (kr : Int), .slice a M.length cap] W fun e w' => APost W w' B a (M ++ codeP r M.length) e) := fun W a cap M hR hO hW hM => IH.out kr r (kl + 1) hpr (by omega) _ ec M a cap B W hR (fun b' off' e => by cases e; exact hbB) hO hW hM
  have NBKV : Hid (∀ g, ob a = some g → B ≤ g ∧ g ≠ w.heap.size ∧ g ≠ w.heap.size + 1) := fun g e => by have := HBK.out g e; exact ⟨this.1, by omega, by omega⟩
  have lVV := lV
  have HAx : Hid (x.a = (kl : Int)) := hA
  have HBx : Hid (x.b = (kr : Int)) := hB2
  have HJ : Hid (jmpI x.o = 5) := by
    unfold Hid jmpI
    have f12 := e12
    have f13 := e13
    simp only [beq_iff_eq, beq_eq_false_iff_ne, ne_eq] at f12 f13
    rw [if_pos f12]
  rw [hA] at q1
  clear hA hB2 hpl hpr IH hkl hkr
  go_enter Try.func15, Try.ntmps15
  have Cw1 := CHl.out V a cap M RV.out OV.out lBV (by omega)
  obtain ⟨M1, hM1⟩ : ∃ x, M ++ codeP l M.length = x := ⟨_, rfl⟩
  have hM1l : M1.length + 1 ≤ M.length + 2 * l.cnt := by rw [← hM1, List.length_append]; have := code_len l M.length; omega
  have hM1g : M1.length = M.length + (codeP l M.length).length := by rw [← hM1, List.length_append]
  have HM1G : Hid (M1.length = M.length + (codeP l M.length).length) := hM1g
  rw [hM1] at Cw1
  have HM1 : Hid (M ++ codeP l M.length = M1) := hM1
  clear hM1 hM1g
  go_wp2_with fail
  refine Cw1.mono ?_
  rintro e w1 ⟨a1, c1, rfl, Aw1⟩
  have Ew1 : Hid (Box w1 w.heap.size 31 #[.slice (some ⟨b, off, none⟩) n ec]) := Aw1.box EV.out (fun e => by have := NBKV.out _ e; omega)
  have Xw1 : Hid (Box w1 (w.heap.size + 1) 62 #[.int .i64 x.o, .int .i64 x.a, .int .i64 x.b, .int .i64 x.c, .int .i64 x.k, .int .i64 x.n, .string x.t]) := Aw1.box XV.out (fun e => by have := NBKV.out _ e; omega)
  have Ow1 : Hid (w1.ownsRow B 50 5 (.slice a1 M1.length c1) M1.length (cellsI M1)) := Aw1.own
  have Rw1 : Hid (RdE w1 (some ⟨b, off, none⟩) n L) := RdE.app Aw1 RV.out (fun b' off' e q => by cases e; have := NBKV.out _ q; omega)
  have lVw1 : w.heap.size + 1 < w1.heap.size := Xw1.out.lt
  have lBw1 : B ≤ w1.heap.size := by omega
  have NBKw1 : Hid (∀ g, ob a1 = some g → B ≤ g ∧ g ≠ w.heap.size ∧ g ≠ w.heap.size + 1) := fun g e => by
    rcases Aw1.new g e with q | q
    · exact NBKV.out g q
    · have := lVV
      exact ⟨by omega, by omega, by omega⟩
  have HAw1 : Hid (App V w1 B a a1 c1 M1) := Aw1
  clear Aw1 Cw1
  clear p0 q0 q1 q2 q3 q4 q5 q6
  have p0 : w1.cell? ⟨w.heap.size, 0, none⟩ = some (.slice (some ⟨b, off, none⟩) n ec) := Ew1.out.cell 0
  obtain ⟨q0, q1, q2, q3, q4, q5, q6⟩ := box7 Xw1.out
  rw [HBx.out] at q2
  obtain ⟨VJ, hVJ⟩ : ∃ W, w1.alloc (.cells #[.int .i64 5, .int .i64 0, .int .i64 0, .int .i64 0, .string ⟨#[]⟩] 50) = W := ⟨_, rfl⟩
  have bVJ : Hid (Below w1.heap.size w1 VJ) := by unfold Hid; rw [← hVJ]; exact (Below.refl _ _).alloc (Nat.le_refl _) _
  have BVJ : Hid (Box VJ w1.heap.size 50 #[.int .i64 5, .int .i64 0, .int .i64 0, .int .i64 0, .string ⟨#[]⟩]) := by unfold Hid; rw [← hVJ]; exact Box.new _ _ _
  have OVJ : Hid (VJ.ownsRow B 50 5 (.slice a1 M1.length c1) M1.length (cellsI M1)) := own_below Ow1.out bVJ.out
  have lVJ : B ≤ VJ.heap.size := by have := bVJ.out.size; omega
  obtain ⟨MJ, hMJ⟩ : ∃ x, M1 ++ [(⟨5, 0, 0, 0, ⟨#[]⟩⟩ : IN)] = x := ⟨_, rfl⟩
  have hMJL : MJ.length = M1.length + 1 := by rw [← hMJ, snocLen]
  have HMJ : Hid (M1 ++ [(⟨5, 0, 0, 0, ⟨#[]⟩⟩ : IN)] = MJ) := hMJ
  have HMJL : Hid (MJ.length = M1.length + 1) := hMJL
  have hMJb : MJ.length ≤ M.length + 2 * l.cnt := by omega
  have lBV0 : B ≤ w.heap.size := hB
  clear hMJ hMJL
  go_wp2_with (first | (go_at_call 26; refine (c_bit_false _).mono ?_; rintro e w1 ⟨rfl, rfl⟩) | (at_builtin; refine app_any _ rfl (.tmp 58) (.tmp 65) 26 rfl B 50 iI (.agg #[.int .i64 0, .int .i64 0, .int .i64 0, .int .i64 0, .string ⟨#[]⟩]) 5 48 Try.underlying26 hiI.out hz0.out hz1.out hz2.out rfl (by omega) (.slice a1 M1.length c1) M1.length (cellsI M1) rfl OVJ.out _ 1 1 (cI (⟨5, 0, 0, 0, ⟨#[]⟩⟩ : IN)) rfl (fun ex => by cases ex) rfl (news_box (⟨5, 0, 0, 0, ⟨#[]⟩⟩ : IN) BVJ.out) (oneI _) (by unfold maxLen; omega) (by omega) lVJ ?_; intro aj cj w3 ho5 hg5 hx5; rw [ob_slice] at hg5 hx5; have A3 : Hid (App w1 w3 B a1 aj cj (M1 ++ [(⟨5, 0, 0, 0, ⟨#[]⟩⟩ : IN)])) := (app_fin bVJ.out ho5 hg5 hx5); clear ho5 hg5 hx5; rw [HMJ.out] at A3; rw [← HMJL.out]; obtain ⟨Ew3, Xw3, Rw3, lVw3, NBKw3⟩ := post_app A3.out Ew1.out Xw1.out Rw1.out NBKw1.out lBV0 hbB lVw1; clear p0 q0 q1 q2 q3 q4 q5 q6; have p0 : w3.cell? ⟨w.heap.size, 0, none⟩ = some (.slice (some ⟨b, off, none⟩) n ec) := Ew3.out.cell 0; obtain ⟨q0, q1, q2, q3, q4, q5, q6⟩ := box7 Xw3.out; rw [HBx.out] at q2))
  have Ow3 : Hid (w3.ownsRow B 50 5 (.slice aj MJ.length cj) MJ.length (cellsI MJ)) := A3.out.own
  have lBw3 : B ≤ w3.heap.size := by omega
  have Cw2 := CHr.out w3 aj cj MJ Rw3.out Ow3.out lBw3 (by omega)
  obtain ⟨M2, hM2⟩ : ∃ x, MJ ++ codeP r MJ.length = x := ⟨_, rfl⟩
  have hM2l : M2.length + 1 ≤ MJ.length + 2 * r.cnt := by rw [← hM2, List.length_append]; have := code_len r MJ.length; omega
  have hM2g : M2.length = MJ.length + (codeP r MJ.length).length := by rw [← hM2, List.length_append]
  have HM2G : Hid (M2.length = MJ.length + (codeP r MJ.length).length) := hM2g
  rw [hM2] at Cw2
  have HM2 : Hid (MJ ++ codeP r MJ.length = M2) := hM2
  clear hM2 hM2g
  refine Cw2.mono ?_
  rintro e w2 ⟨ar, cr, rfl, Aw2⟩
  have Ew2 : Hid (Box w2 w.heap.size 31 #[.slice (some ⟨b, off, none⟩) n ec]) := Aw2.box Ew3.out (fun e => by have := NBKw3.out _ e; omega)
  have Xw2 : Hid (Box w2 (w.heap.size + 1) 62 #[.int .i64 x.o, .int .i64 x.a, .int .i64 x.b, .int .i64 x.c, .int .i64 x.k, .int .i64 x.n, .string x.t]) := Aw2.box Xw3.out (fun e => by have := NBKw3.out _ e; omega)
  have Ow2 : Hid (w2.ownsRow B 50 5 (.slice ar M2.length cr) M2.length (cellsI M2)) := Aw2.own
  have Rw2 : Hid (RdE w2 (some ⟨b, off, none⟩) n L) := RdE.app Aw2 Rw3.out (fun b' off' e q => by cases e; have := NBKw3.out _ q; omega)
  have lVw2 : w.heap.size + 1 < w2.heap.size := Xw2.out.lt
  have lBw2 : B ≤ w2.heap.size := by omega
  have NBKw2 : Hid (∀ g, ob ar = some g → B ≤ g ∧ g ≠ w.heap.size ∧ g ≠ w.heap.size + 1) := fun g e => by
    rcases Aw2.new g e with q | q
    · exact NBKw3.out g q
    · have := lVw3
      exact ⟨by omega, by omega, by omega⟩
  have HAw2 : Hid (App w3 w2 B aj ar cr M2) := Aw2
  clear Aw2 Cw2
  clear p0 q0 q1 q2 q3 q4 q5 q6
  have p0 : w2.cell? ⟨w.heap.size, 0, none⟩ = some (.slice (some ⟨b, off, none⟩) n ec) := Ew2.out.cell 0
  obtain ⟨q0, q1, q2, q3, q4, q5, q6⟩ := box7 Xw2.out
  have g8 : (0 : Int) ≤ (M1.length : Int) := by omega
  obtain ⟨VN, hVN⟩ : ∃ W, w2.alloc (.cells #[.int .i64 4, .int .i64 x.o, .int .i64 0, .int .i64 0, .string ⟨#[]⟩] 50) = W := ⟨_, rfl⟩
  have bVN : Hid (Below w2.heap.size w2 VN) := by unfold Hid; rw [← hVN]; exact (Below.refl _ _).alloc (Nat.le_refl _) _
  have BVN : Hid (Box VN w2.heap.size 50 #[.int .i64 4, .int .i64 x.o, .int .i64 0, .int .i64 0, .string ⟨#[]⟩]) := by unfold Hid; rw [← hVN]; exact Box.new _ _ _
  have OVN : Hid (VN.ownsRow B 50 5 (.slice ar M2.length cr) M2.length (cellsI M2)) := own_below Ow2.out bVN.out
  have lVN : B ≤ VN.heap.size := by have := bVN.out.size; omega
  go_wp2_with (at_builtin; refine app_any _ rfl (.tmp 72) (.tmp 76) 26 rfl B 50 iI (.agg #[.int .i64 0, .int .i64 0, .int .i64 0, .int .i64 0, .string ⟨#[]⟩]) 5 48 Try.underlying26 hiI.out hz0.out hz1.out hz2.out rfl (by omega) (.slice ar M2.length cr) M2.length (cellsI M2) rfl OVN.out _ 1 1 (cI (⟨4, x.o, 0, 0, ⟨#[]⟩⟩ : IN)) rfl (fun ex => by cases ex) rfl (news_box (⟨4, x.o, 0, 0, ⟨#[]⟩⟩ : IN) BVN.out) (oneI _) (by unfold maxLen; omega) (by omega) lVN ?_; intro a2 c2 w5 ho5 hg5 hx5; rw [ob_slice] at hg5 hx5; have A5 : Hid (App w2 w5 B ar a2 c2 (M2 ++ [(⟨4, x.o, 0, 0, ⟨#[]⟩⟩ : IN)])) := (app_fin bVN.out ho5 hg5 hx5); clear ho5 hg5 hx5)
  have AF : Hid (App w w5 B a a2 c2 (M2 ++ [(⟨4, x.o, 0, 0, ⟨#[]⟩⟩ : IN)])) := (((HAw1.out.trans A3.out).trans HAw2.out).trans A5.out).pre HbV.out
  have hfl : (M2 ++ [(⟨4, x.o, 0, 0, ⟨#[]⟩⟩ : IN)]).length = M2.length + 1 := snocLen _ _
  have hM2L : MJ.length ≤ M2.length := by rw [← HM2.out, List.length_append]; omega
  have hJL := HMJL.out
  obtain ⟨g, hg, hgc, hgf⟩ := own_addr AF.out.own (by omega) M1.length (by omega)
  subst hg
  obtain ⟨u0, hu0⟩ := hgc
  have g9 : (M1.length : Int) < (M2.length : Int) + 1 := by omega
  have AS := AF.out.setp M1.length ((M2.length : Int) + 1) (by omega)
  have HAS : Hid (App w (w5.setCell ⟨g, M1.length * 5 + 1, none⟩ (.int .i64 ((M2.length : Int) + 1))) B a (some ⟨g, 0, none⟩) c2 ((M2 ++ [(⟨4, x.o, 0, 0, ⟨#[]⟩⟩ : IN)]).set M1.length { ((M2 ++ [(⟨4, x.o, 0, 0, ⟨#[]⟩⟩ : IN)]).getD M1.length zeroI) with p := (M2.length : Int) + 1 })) := AS
  have E : Hid ((M2 ++ [(⟨4, x.o, 0, 0, ⟨#[]⟩⟩ : IN)]).set M1.length { ((M2 ++ [(⟨4, x.o, 0, 0, ⟨#[]⟩⟩ : IN)]).getD M1.length zeroI) with p := (M2.length : Int) + 1 } = M ++ codeP (.bin x.o l r) M.length) := by
    unfold Hid
    have e2 : M2 = M1 ++ (⟨5, 0, 0, 0, ⟨#[]⟩⟩ : IN) :: codeP r MJ.length := by rw [← HM2.out, ← HMJ.out, List.append_assoc]; rfl
    have e3 : M2 ++ [(⟨4, x.o, 0, 0, ⟨#[]⟩⟩ : IN)] = M1 ++ (⟨5, 0, 0, 0, ⟨#[]⟩⟩ : IN) :: (codeP r MJ.length ++ [(⟨4, x.o, 0, 0, ⟨#[]⟩⟩ : IN)]) := by rw [e2, List.append_assoc]; rfl
    rw [e3, getD_mid, set_mid, codeP, if_neg (by rw [HJ.out]; decide), HJ.out, ← HM1G.out, ← HMJL.out, ← HM1.out]
    have e4 : (M2.length : Int) + 1 = ((MJ.length + (codeP r MJ.length).length + 1 : Nat) : Int) := by
      have := HM2G.out
      omega
    rw [e4]
    simp [List.append_assoc]
  have HL2 : Hid ((M ++ codeP (.bin x.o l r) M.length).length = M2.length + 1) := by unfold Hid; rw [← E.out, List.length_set, hfl]
  clear AS AF hfl hM2L hJL A5
  go_wp2
  go_ret
  refine ⟨_, c2, by rw [HL2.out]; rfl, ?_⟩
  rw [← E.out]
  exact HAS.out
--@@
--@or
set_option maxRecDepth 100000 in
set_option maxHeartbeats 4000000 in
theorem c_lp_or (L : List EN) (n : Nat) (hn : n ≤ 1048576) (k : Nat) (x : EN) (hk : k < n) (hx : x = L.getD k zeroE) (ea : Option Addr) (ec : Nat) (M : List IN) (a : Option Addr) (cap B : Nat) (w : World) (hr : RdE w ea n L) (hea : ∀ b off, ea = some ⟨b, off, none⟩ → b < B) (h : w.ownsRow B 50 5 (.slice a M.length cap) M.length (cellsI M)) (hB : B ≤ w.heap.size) (o1 : (x.o == 1) = false) (o2 : (x.o == 2) = false) (u : ¬ x.o ≤ 5) (e12 : (x.o == 12) = false) (e13 : (x.o == 13) = true) (kl kr fl fu : Nat) (l r : PT) (IH : Hid (IHS L n fu)) (hkl : kl < k) (hkr : kr < k) (hA : x.a = (kl : Int)) (hB2 : x.b = (kr : Int)) (hpl : pF L fu (kl + 1) = some (l, fl)) (hpr : pF L fu (kr + 1) = some (r, kl + 1)) (hl : M.length + 2 * l.cnt + 2 * r.cnt + 2 ≤ 1000) :
    Calls Try.prog 15 #[.agg #[.slice ea n ec], .int .i64 (k : Int), .slice a M.length cap] w fun e w' => APost w w' B a (M ++ codeP (.bin x.o l r) M.length) e := by
  obtain ⟨iI, giV, gz0, gz1, gz2⟩ := info_parts infoIns
  have hiI : Hid (Try.prog.info? 50 = some iI) := giV
  have hz0 : Hid (iI.zero = some (.agg #[.int .i64 0, .int .i64 0, .int .i64 0, .int .i64 0, .string ⟨#[]⟩])) := gz0
  have hz1 : Hid (iI.size = 5) := gz1
  have hz2 : Hid (iI.bytes = 48) := gz2
  clear giV gz0 gz1 gz2
  obtain ⟨b, off, rfl, hbl, hc⟩ := hr.2 (by omega)
  obtain ⟨d0, d1, d2, d3, d4, d5, d6⟩ := RdE.at hc hk hx
  have g1 : (0 : Int) ≤ (k : Int) := by omega
  have g2 : (k : Int) < (n : Int) := by omega
  obtain ⟨V, hV⟩ : ∃ V, (w.alloc (.cells #[.slice (some ⟨b, off, none⟩) n ec] 31)).alloc (.cells #[.int .i64 x.o, .int .i64 x.a, .int .i64 x.b, .int .i64 x.c, .int .i64 x.k, .int .i64 x.n, .string x.t] 62) = V := ⟨_, rfl⟩
  have bV : Below w.heap.size w V := by rw [← hV]; exact ((Below.refl _ _).alloc (Nat.le_refl _) _).alloc (by simp) _
  have EV : Hid (Box V w.heap.size 31 #[.slice (some ⟨b, off, none⟩) n ec]) := by unfold Hid; rw [← hV]; exact (Box.new _ _ _).alloc _
  have XV : Hid (Box V (w.heap.size + 1) 62 #[.int .i64 x.o, .int .i64 x.a, .int .i64 x.b, .int .i64 x.c, .int .i64 x.k, .int .i64 x.n, .string x.t]) := by unfold Hid; rw [← hV]; exact Box.new2 _ _ _ _
  have OV : Hid (V.ownsRow B 50 5 (.slice a M.length cap) M.length (cellsI M)) := own_below h bV
  have RV : Hid (RdE V (some ⟨b, off, none⟩) n L) := hr.below bV
  have HbV : Hid (Below w.heap.size w V) := bV
  have HBK : Hid (∀ g, ob a = some g → B ≤ g ∧ g < w.heap.size) := App.blk h
  have hbB : b < B := hea b off rfl
  have lV : w.heap.size + 1 < V.heap.size := XV.out.lt
  have lBV : B ≤ V.heap.size := by omega
  have p0 : V.cell? ⟨w.heap.size, 0, none⟩ = some (.slice (some ⟨b, off, none⟩) n ec) := EV.out.cell 0
  obtain ⟨q0, q1, q2, q3, q4, q5, q6⟩ := box7 XV.out
  clear hc hx hr h bV hea
  have CHl : Hid (∀ (W : World) (a : Option Addr) (cap : Nat) (M : List IN), RdE W (some ⟨b, off, none⟩) n L → W.ownsRow B 50 5 (.slice a M.length cap) M.length (cellsI M) → B ≤ W.heap.size → M.length + 2 * l.cnt ≤ 1000 → Calls Try.prog 15 #[.agg #[.slice (some ⟨b, off, none⟩) n ec], .int .i64 (kl : Int), .slice a M.length cap] W fun e w' => APost W w' B a (M ++ codeP l M.length) e) := fun W a cap M hR hO hW hM => IH.out kl l fl hpl (by omega) _ ec M a cap B W hR (fun b' off' e => by cases e; exact hbB) hO hW hM
  have CHr : Hid (∀ (W : World) (a : Option Addr) (cap : Nat) (M : List IN), RdE W (some ⟨b, off, none⟩) n L → W.ownsRow B 50 5 (.slice a M.length cap) M.length (cellsI M) → B ≤ W.heap.size → M.length + 2 * r.cnt ≤ 1000 → Calls Try.prog 15 #[.agg #[.slice (some ⟨b, off, none⟩) n ec], .int .i64 (kr : Int), .slice a M.length cap] W fun e w' => APost W w' B a (M ++ codeP r M.length) e) := fun W a cap M hR hO hW hM => IH.out kr r (kl + 1) hpr (by omega) _ ec M a cap B W hR (fun b' off' e => by cases e; exact hbB) hO hW hM
  have NBKV : Hid (∀ g, ob a = some g → B ≤ g ∧ g ≠ w.heap.size ∧ g ≠ w.heap.size + 1) := fun g e => by have := HBK.out g e; exact ⟨this.1, by omega, by omega⟩
  have lVV := lV
  have HAx : Hid (x.a = (kl : Int)) := hA
  have HBx : Hid (x.b = (kr : Int)) := hB2
  have HJ : Hid (jmpI x.o = 6) := by
    unfold Hid jmpI
    have f12 := e12
    have f13 := e13
    simp only [beq_iff_eq, beq_eq_false_iff_ne, ne_eq] at f12 f13
    rw [if_neg f12, if_pos f13]
  rw [hA] at q1
  clear hA hB2 hpl hpr IH hkl hkr
  go_enter Try.func15, Try.ntmps15
  have Cw1 := CHl.out V a cap M RV.out OV.out lBV (by omega)
  obtain ⟨M1, hM1⟩ : ∃ x, M ++ codeP l M.length = x := ⟨_, rfl⟩
  have hM1l : M1.length + 1 ≤ M.length + 2 * l.cnt := by rw [← hM1, List.length_append]; have := code_len l M.length; omega
  have hM1g : M1.length = M.length + (codeP l M.length).length := by rw [← hM1, List.length_append]
  have HM1G : Hid (M1.length = M.length + (codeP l M.length).length) := hM1g
  rw [hM1] at Cw1
  have HM1 : Hid (M ++ codeP l M.length = M1) := hM1
  clear hM1 hM1g
  go_wp2_with fail
  refine Cw1.mono ?_
  rintro e w1 ⟨a1, c1, rfl, Aw1⟩
  have Ew1 : Hid (Box w1 w.heap.size 31 #[.slice (some ⟨b, off, none⟩) n ec]) := Aw1.box EV.out (fun e => by have := NBKV.out _ e; omega)
  have Xw1 : Hid (Box w1 (w.heap.size + 1) 62 #[.int .i64 x.o, .int .i64 x.a, .int .i64 x.b, .int .i64 x.c, .int .i64 x.k, .int .i64 x.n, .string x.t]) := Aw1.box XV.out (fun e => by have := NBKV.out _ e; omega)
  have Ow1 : Hid (w1.ownsRow B 50 5 (.slice a1 M1.length c1) M1.length (cellsI M1)) := Aw1.own
  have Rw1 : Hid (RdE w1 (some ⟨b, off, none⟩) n L) := RdE.app Aw1 RV.out (fun b' off' e q => by cases e; have := NBKV.out _ q; omega)
  have lVw1 : w.heap.size + 1 < w1.heap.size := Xw1.out.lt
  have lBw1 : B ≤ w1.heap.size := by omega
  have NBKw1 : Hid (∀ g, ob a1 = some g → B ≤ g ∧ g ≠ w.heap.size ∧ g ≠ w.heap.size + 1) := fun g e => by
    rcases Aw1.new g e with q | q
    · exact NBKV.out g q
    · have := lVV
      exact ⟨by omega, by omega, by omega⟩
  have HAw1 : Hid (App V w1 B a a1 c1 M1) := Aw1
  clear Aw1 Cw1
  clear p0 q0 q1 q2 q3 q4 q5 q6
  have p0 : w1.cell? ⟨w.heap.size, 0, none⟩ = some (.slice (some ⟨b, off, none⟩) n ec) := Ew1.out.cell 0
  obtain ⟨q0, q1, q2, q3, q4, q5, q6⟩ := box7 Xw1.out
  rw [HBx.out] at q2
  obtain ⟨VJ, hVJ⟩ : ∃ W, w1.alloc (.cells #[.int .i64 6, .int .i64 0, .int .i64 0, .int .i64 0, .string ⟨#[]⟩] 50) = W := ⟨_, rfl⟩
  have bVJ : Hid (Below w1.heap.size w1 VJ) := by unfold Hid; rw [← hVJ]; exact (Below.refl _ _).alloc (Nat.le_refl _) _
  have BVJ : Hid (Box VJ w1.heap.size 50 #[.int .i64 6, .int .i64 0, .int .i64 0, .int .i64 0, .string ⟨#[]⟩]) := by unfold Hid; rw [← hVJ]; exact Box.new _ _ _
  have OVJ : Hid (VJ.ownsRow B 50 5 (.slice a1 M1.length c1) M1.length (cellsI M1)) := own_below Ow1.out bVJ.out
  have lVJ : B ≤ VJ.heap.size := by have := bVJ.out.size; omega
  obtain ⟨MJ, hMJ⟩ : ∃ x, M1 ++ [(⟨6, 0, 0, 0, ⟨#[]⟩⟩ : IN)] = x := ⟨_, rfl⟩
  have hMJL : MJ.length = M1.length + 1 := by rw [← hMJ, snocLen]
  have HMJ : Hid (M1 ++ [(⟨6, 0, 0, 0, ⟨#[]⟩⟩ : IN)] = MJ) := hMJ
  have HMJL : Hid (MJ.length = M1.length + 1) := hMJL
  have hMJb : MJ.length ≤ M.length + 2 * l.cnt := by omega
  have lBV0 : B ≤ w.heap.size := hB
  clear hMJ hMJL
  go_wp2_with (first | (go_at_call 26; refine (c_bit_true _).mono ?_; rintro e w1 ⟨rfl, rfl⟩) | (at_builtin; refine app_any _ rfl (.tmp 58) (.tmp 65) 26 rfl B 50 iI (.agg #[.int .i64 0, .int .i64 0, .int .i64 0, .int .i64 0, .string ⟨#[]⟩]) 5 48 Try.underlying26 hiI.out hz0.out hz1.out hz2.out rfl (by omega) (.slice a1 M1.length c1) M1.length (cellsI M1) rfl OVJ.out _ 1 1 (cI (⟨6, 0, 0, 0, ⟨#[]⟩⟩ : IN)) rfl (fun ex => by cases ex) rfl (news_box (⟨6, 0, 0, 0, ⟨#[]⟩⟩ : IN) BVJ.out) (oneI _) (by unfold maxLen; omega) (by omega) lVJ ?_; intro aj cj w3 ho5 hg5 hx5; rw [ob_slice] at hg5 hx5; have A3 : Hid (App w1 w3 B a1 aj cj (M1 ++ [(⟨6, 0, 0, 0, ⟨#[]⟩⟩ : IN)])) := (app_fin bVJ.out ho5 hg5 hx5); clear ho5 hg5 hx5; rw [HMJ.out] at A3; rw [← HMJL.out]; obtain ⟨Ew3, Xw3, Rw3, lVw3, NBKw3⟩ := post_app A3.out Ew1.out Xw1.out Rw1.out NBKw1.out lBV0 hbB lVw1; clear p0 q0 q1 q2 q3 q4 q5 q6; have p0 : w3.cell? ⟨w.heap.size, 0, none⟩ = some (.slice (some ⟨b, off, none⟩) n ec) := Ew3.out.cell 0; obtain ⟨q0, q1, q2, q3, q4, q5, q6⟩ := box7 Xw3.out; rw [HBx.out] at q2))
  have Ow3 : Hid (w3.ownsRow B 50 5 (.slice aj MJ.length cj) MJ.length (cellsI MJ)) := A3.out.own
  have lBw3 : B ≤ w3.heap.size := by omega
  have Cw2 := CHr.out w3 aj cj MJ Rw3.out Ow3.out lBw3 (by omega)
  obtain ⟨M2, hM2⟩ : ∃ x, MJ ++ codeP r MJ.length = x := ⟨_, rfl⟩
  have hM2l : M2.length + 1 ≤ MJ.length + 2 * r.cnt := by rw [← hM2, List.length_append]; have := code_len r MJ.length; omega
  have hM2g : M2.length = MJ.length + (codeP r MJ.length).length := by rw [← hM2, List.length_append]
  have HM2G : Hid (M2.length = MJ.length + (codeP r MJ.length).length) := hM2g
  rw [hM2] at Cw2
  have HM2 : Hid (MJ ++ codeP r MJ.length = M2) := hM2
  clear hM2 hM2g
  refine Cw2.mono ?_
  rintro e w2 ⟨ar, cr, rfl, Aw2⟩
  have Ew2 : Hid (Box w2 w.heap.size 31 #[.slice (some ⟨b, off, none⟩) n ec]) := Aw2.box Ew3.out (fun e => by have := NBKw3.out _ e; omega)
  have Xw2 : Hid (Box w2 (w.heap.size + 1) 62 #[.int .i64 x.o, .int .i64 x.a, .int .i64 x.b, .int .i64 x.c, .int .i64 x.k, .int .i64 x.n, .string x.t]) := Aw2.box Xw3.out (fun e => by have := NBKw3.out _ e; omega)
  have Ow2 : Hid (w2.ownsRow B 50 5 (.slice ar M2.length cr) M2.length (cellsI M2)) := Aw2.own
  have Rw2 : Hid (RdE w2 (some ⟨b, off, none⟩) n L) := RdE.app Aw2 Rw3.out (fun b' off' e q => by cases e; have := NBKw3.out _ q; omega)
  have lVw2 : w.heap.size + 1 < w2.heap.size := Xw2.out.lt
  have lBw2 : B ≤ w2.heap.size := by omega
  have NBKw2 : Hid (∀ g, ob ar = some g → B ≤ g ∧ g ≠ w.heap.size ∧ g ≠ w.heap.size + 1) := fun g e => by
    rcases Aw2.new g e with q | q
    · exact NBKw3.out g q
    · have := lVw3
      exact ⟨by omega, by omega, by omega⟩
  have HAw2 : Hid (App w3 w2 B aj ar cr M2) := Aw2
  clear Aw2 Cw2
  clear p0 q0 q1 q2 q3 q4 q5 q6
  have p0 : w2.cell? ⟨w.heap.size, 0, none⟩ = some (.slice (some ⟨b, off, none⟩) n ec) := Ew2.out.cell 0
  obtain ⟨q0, q1, q2, q3, q4, q5, q6⟩ := box7 Xw2.out
  have g8 : (0 : Int) ≤ (M1.length : Int) := by omega
  obtain ⟨VN, hVN⟩ : ∃ W, w2.alloc (.cells #[.int .i64 4, .int .i64 x.o, .int .i64 0, .int .i64 0, .string ⟨#[]⟩] 50) = W := ⟨_, rfl⟩
  have bVN : Hid (Below w2.heap.size w2 VN) := by unfold Hid; rw [← hVN]; exact (Below.refl _ _).alloc (Nat.le_refl _) _
  have BVN : Hid (Box VN w2.heap.size 50 #[.int .i64 4, .int .i64 x.o, .int .i64 0, .int .i64 0, .string ⟨#[]⟩]) := by unfold Hid; rw [← hVN]; exact Box.new _ _ _
  have OVN : Hid (VN.ownsRow B 50 5 (.slice ar M2.length cr) M2.length (cellsI M2)) := own_below Ow2.out bVN.out
  have lVN : B ≤ VN.heap.size := by have := bVN.out.size; omega
  go_wp2_with (at_builtin; refine app_any _ rfl (.tmp 72) (.tmp 76) 26 rfl B 50 iI (.agg #[.int .i64 0, .int .i64 0, .int .i64 0, .int .i64 0, .string ⟨#[]⟩]) 5 48 Try.underlying26 hiI.out hz0.out hz1.out hz2.out rfl (by omega) (.slice ar M2.length cr) M2.length (cellsI M2) rfl OVN.out _ 1 1 (cI (⟨4, x.o, 0, 0, ⟨#[]⟩⟩ : IN)) rfl (fun ex => by cases ex) rfl (news_box (⟨4, x.o, 0, 0, ⟨#[]⟩⟩ : IN) BVN.out) (oneI _) (by unfold maxLen; omega) (by omega) lVN ?_; intro a2 c2 w5 ho5 hg5 hx5; rw [ob_slice] at hg5 hx5; have A5 : Hid (App w2 w5 B ar a2 c2 (M2 ++ [(⟨4, x.o, 0, 0, ⟨#[]⟩⟩ : IN)])) := (app_fin bVN.out ho5 hg5 hx5); clear ho5 hg5 hx5)
  have AF : Hid (App w w5 B a a2 c2 (M2 ++ [(⟨4, x.o, 0, 0, ⟨#[]⟩⟩ : IN)])) := (((HAw1.out.trans A3.out).trans HAw2.out).trans A5.out).pre HbV.out
  have hfl : (M2 ++ [(⟨4, x.o, 0, 0, ⟨#[]⟩⟩ : IN)]).length = M2.length + 1 := snocLen _ _
  have hM2L : MJ.length ≤ M2.length := by rw [← HM2.out, List.length_append]; omega
  have hJL := HMJL.out
  obtain ⟨g, hg, hgc, hgf⟩ := own_addr AF.out.own (by omega) M1.length (by omega)
  subst hg
  obtain ⟨u0, hu0⟩ := hgc
  have g9 : (M1.length : Int) < (M2.length : Int) + 1 := by omega
  have AS := AF.out.setp M1.length ((M2.length : Int) + 1) (by omega)
  have HAS : Hid (App w (w5.setCell ⟨g, M1.length * 5 + 1, none⟩ (.int .i64 ((M2.length : Int) + 1))) B a (some ⟨g, 0, none⟩) c2 ((M2 ++ [(⟨4, x.o, 0, 0, ⟨#[]⟩⟩ : IN)]).set M1.length { ((M2 ++ [(⟨4, x.o, 0, 0, ⟨#[]⟩⟩ : IN)]).getD M1.length zeroI) with p := (M2.length : Int) + 1 })) := AS
  have E : Hid ((M2 ++ [(⟨4, x.o, 0, 0, ⟨#[]⟩⟩ : IN)]).set M1.length { ((M2 ++ [(⟨4, x.o, 0, 0, ⟨#[]⟩⟩ : IN)]).getD M1.length zeroI) with p := (M2.length : Int) + 1 } = M ++ codeP (.bin x.o l r) M.length) := by
    unfold Hid
    have e2 : M2 = M1 ++ (⟨6, 0, 0, 0, ⟨#[]⟩⟩ : IN) :: codeP r MJ.length := by rw [← HM2.out, ← HMJ.out, List.append_assoc]; rfl
    have e3 : M2 ++ [(⟨4, x.o, 0, 0, ⟨#[]⟩⟩ : IN)] = M1 ++ (⟨6, 0, 0, 0, ⟨#[]⟩⟩ : IN) :: (codeP r MJ.length ++ [(⟨4, x.o, 0, 0, ⟨#[]⟩⟩ : IN)]) := by rw [e2, List.append_assoc]; rfl
    rw [e3, getD_mid, set_mid, codeP, if_neg (by rw [HJ.out]; decide), HJ.out, ← HM1G.out, ← HMJL.out, ← HM1.out]
    have e4 : (M2.length : Int) + 1 = ((MJ.length + (codeP r MJ.length).length + 1 : Nat) : Int) := by
      have := HM2G.out
      omega
    rw [e4]
    simp [List.append_assoc]
  have HL2 : Hid ((M ++ codeP (.bin x.o l r) M.length).length = M2.length + 1) := by unfold Hid; rw [← E.out, List.length_set, hfl]
  clear AS AF hfl hM2L hJL A5
  go_wp2
  go_ret
  refine ⟨_, c2, by rw [HL2.out]; rfl, ?_⟩
  rw [← E.out]
  exact HAS.out
--@@

end Go.Proofs.Ytepeaabacfjheaa
