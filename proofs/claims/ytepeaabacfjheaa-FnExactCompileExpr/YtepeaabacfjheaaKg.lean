/-
  The specification's l11Put and CompileExpr.
-/
import Derived.Test.YtepeaabacfjheaaKf
import Derived.Deep.RegionHeld3
namespace Go.Proofs.Ytepeaabacfjheaa
open Go Go.RowKit
attribute [local go_sem ↓] Go.wp_at_zero Go.wp_at_succ

set_option linter.unusedVariables false
set_option linter.unusedSimpArgs false
theorem RdE.app {w w' : World} {B : Nat} {a a' : Option Addr} {cap' : Nat} {M : List IN} (h : App w w' B a a' cap' M) {ea : Option Addr} {n : Nat} {L : List EN} (hr : RdE w ea n L) (hne : ∀ b off, ea = some ⟨b, off, none⟩ → ob a ≠ some b) : RdE w' ea n L := by
  obtain ⟨h1, h3⟩ := hr
  refine ⟨h1, fun hn => ?_⟩
  obtain ⟨b, off, e, hlt, hc⟩ := h3 hn
  refine ⟨b, off, e, Nat.lt_of_lt_of_le hlt h.gr.size, fun i hi j hj => ?_⟩
  rw [World.cell?_of_block (h.gr.block b hlt (fun q => hne b off e q.symm))]
  exact hc i hi j hj
def IHS (L : List EN) (n fu : Nat) : Prop := ∀ (k : Nat) (p : PT) (f : Nat), pF L fu (k + 1) = some (p, f) → k < n → ∀ (ea : Option Addr) (ec : Nat) (M : List IN) (a : Option Addr) (cap B : Nat) (w : World), RdE w ea n L → (∀ b off, ea = some ⟨b, off, none⟩ → b < B) → w.ownsRow B 50 5 (.slice a M.length cap) M.length (cellsI M) → B ≤ w.heap.size → M.length + 2 * p.cnt ≤ 1000 → Calls Try.prog 15 #[.agg #[.slice ea n ec], .int .i64 (k : Int), .slice a M.length cap] w fun e w' => APost w w' B a (M ++ codeP p M.length) e
set_option maxRecDepth 100000 in
set_option maxHeartbeats 4000000 in
theorem c_lp_con (L : List EN) (n : Nat) (hn : n ≤ 1048576) (k : Nat) (x : EN) (hk : k < n) (hx : x = L.getD k zeroE) (ea : Option Addr) (ec : Nat) (M : List IN) (a : Option Addr) (cap B : Nat) (w : World) (hr : RdE w ea n L) (hea : ∀ b off, ea = some ⟨b, off, none⟩ → b < B) (h : w.ownsRow B 50 5 (.slice a M.length cap) M.length (cellsI M)) (hB : B ≤ w.heap.size) (o1 : (x.o == 1) = true) (hl : M.length + 2 ≤ 1000) :
    Calls Try.prog 15 #[.agg #[.slice ea n ec], .int .i64 (k : Int), .slice a M.length cap] w fun e w' => APost w w' B a (M ++ [(⟨1, 0, x.k, x.n, x.t⟩ : IN)]) e := by
  obtain ⟨iI, giV, gz0, gz1, gz2⟩ := info_parts infoIns
  have hiI : Hid (Try.prog.info? 50 = some iI) := giV
  have hz0 : Hid (iI.zero = some (.agg #[.int .i64 0, .int .i64 0, .int .i64 0, .int .i64 0, .string ⟨#[]⟩])) := gz0
  have hz1 : Hid (iI.size = 5) := gz1
  have hz2 : Hid (iI.bytes = 48) := gz2
  clear giV gz0 gz1 gz2
  obtain ⟨b, off, rfl, hbl, hc⟩ := hr.2 (by omega)
  obtain ⟨d0, d1, d2, d3, d4, d5, d6⟩ := RdE.at hc hk hx
  have g1 : (0 : Int) ≤ (k : Int) := by omega
  have g2 : (k : Int) < (n : Int) := by omega
  obtain ⟨V, hV⟩ : ∃ V, (w.alloc (.cells #[.slice (some ⟨b, off, none⟩) n ec] 31)).alloc (.cells #[.int .i64 x.o, .int .i64 x.a, .int .i64 x.b, .int .i64 x.c, .int .i64 x.k, .int .i64 x.n, .string x.t] 62) = V := ⟨_, rfl⟩
  have bV : Below w.heap.size w V := by rw [← hV]; exact ((Below.refl _ _).alloc (Nat.le_refl _) _).alloc (by simp) _
  have EV : Hid (Box V w.heap.size 31 #[.slice (some ⟨b, off, none⟩) n ec]) := by unfold Hid; rw [← hV]; exact (Box.new _ _ _).alloc _
  have XV : Hid (Box V (w.heap.size + 1) 62 #[.int .i64 x.o, .int .i64 x.a, .int .i64 x.b, .int .i64 x.c, .int .i64 x.k, .int .i64 x.n, .string x.t]) := by unfold Hid; rw [← hV]; exact Box.new2 _ _ _ _
  have OV : Hid (V.ownsRow B 50 5 (.slice a M.length cap) M.length (cellsI M)) := own_below h bV
  have RV : Hid (RdE V (some ⟨b, off, none⟩) n L) := hr.below bV
  have HbV : Hid (Below w.heap.size w V) := bV
  have HBK : Hid (∀ g, ob a = some g → B ≤ g ∧ g < w.heap.size) := App.blk h
  have hbB : b < B := hea b off rfl
  have lV : w.heap.size + 1 < V.heap.size := XV.out.lt
  have lBV : B ≤ V.heap.size := by omega
  have p0 : V.cell? ⟨w.heap.size, 0, none⟩ = some (.slice (some ⟨b, off, none⟩) n ec) := EV.out.cell 0
  obtain ⟨q0, q1, q2, q3, q4, q5, q6⟩ := box7 XV.out
  clear hc hx hr h bV hea
  obtain ⟨VN, hVN⟩ : ∃ W, V.alloc (.cells #[.int .i64 1, .int .i64 0, .int .i64 x.k, .int .i64 x.n, .string x.t] 50) = W := ⟨_, rfl⟩
  have bVN : Hid (Below V.heap.size V VN) := by unfold Hid; rw [← hVN]; exact (Below.refl _ _).alloc (Nat.le_refl _) _
  have BVN : Hid (Box VN V.heap.size 50 #[.int .i64 1, .int .i64 0, .int .i64 x.k, .int .i64 x.n, .string x.t]) := by unfold Hid; rw [← hVN]; exact Box.new _ _ _
  have OVN : Hid (VN.ownsRow B 50 5 (.slice a M.length cap) M.length (cellsI M)) := own_below OV.out bVN.out
  have lVN : B ≤ VN.heap.size := by have := bVN.out.size; omega
  go_enter Try.func15, Try.ntmps15
  go_wp2_with (at_builtin; refine app_any _ rfl (.tmp 18) (.tmp 22) 26 rfl B 50 iI (.agg #[.int .i64 0, .int .i64 0, .int .i64 0, .int .i64 0, .string ⟨#[]⟩]) 5 48 Try.underlying26 hiI.out hz0.out hz1.out hz2.out rfl (by omega) (.slice a M.length cap) M.length (cellsI M) rfl OVN.out _ 1 1 (cI (⟨1, 0, x.k, x.n, x.t⟩ : IN)) rfl (fun ex => by cases ex) rfl (news_box (⟨1, 0, x.k, x.n, x.t⟩ : IN) BVN.out) (oneI _) (by unfold maxLen; omega) (by omega) lVN ?_; intro a2 c2 w5 ho5 hg5 hx5; rw [ob_slice] at hg5 hx5; have A5 : Hid (App V w5 B a a2 c2 (M ++ [(⟨1, 0, x.k, x.n, x.t⟩ : IN)])) := (app_fin bVN.out ho5 hg5 hx5); clear ho5 hg5 hx5)
  go_ret
  exact ⟨a2, c2, by rw [snocLen]; rfl, A5.out.pre HbV.out⟩
set_option maxRecDepth 100000 in
set_option maxHeartbeats 4000000 in
theorem c_lp_col (L : List EN) (n : Nat) (hn : n ≤ 1048576) (k : Nat) (x : EN) (hk : k < n) (hx : x = L.getD k zeroE) (ea : Option Addr) (ec : Nat) (M : List IN) (a : Option Addr) (cap B : Nat) (w : World) (hr : RdE w ea n L) (hea : ∀ b off, ea = some ⟨b, off, none⟩ → b < B) (h : w.ownsRow B 50 5 (.slice a M.length cap) M.length (cellsI M)) (hB : B ≤ w.heap.size) (o1 : (x.o == 1) = false) (o2 : (x.o == 2) = true) (hl : M.length + 2 ≤ 1000) :
    Calls Try.prog 15 #[.agg #[.slice ea n ec], .int .i64 (k : Int), .slice a M.length cap] w fun e w' => APost w w' B a (M ++ [(⟨2, x.c, 0, 0, ⟨#[]⟩⟩ : IN)]) e := by
  obtain ⟨iI, giV, gz0, gz1, gz2⟩ := info_parts infoIns
  have hiI : Hid (Try.prog.info? 50 = some iI) := giV
  have hz0 : Hid (iI.zero = some (.agg #[.int .i64 0, .int .i64 0, .int .i64 0, .int .i64 0, .string ⟨#[]⟩])) := gz0
  have hz1 : Hid (iI.size = 5) := gz1
  have hz2 : Hid (iI.bytes = 48) := gz2
  clear giV gz0 gz1 gz2
  obtain ⟨b, off, rfl, hbl, hc⟩ := hr.2 (by omega)
  obtain ⟨d0, d1, d2, d3, d4, d5, d6⟩ := RdE.at hc hk hx
  have g1 : (0 : Int) ≤ (k : Int) := by omega
  have g2 : (k : Int) < (n : Int) := by omega
  obtain ⟨V, hV⟩ : ∃ V, (w.alloc (.cells #[.slice (some ⟨b, off, none⟩) n ec] 31)).alloc (.cells #[.int .i64 x.o, .int .i64 x.a, .int .i64 x.b, .int .i64 x.c, .int .i64 x.k, .int .i64 x.n, .string x.t] 62) = V := ⟨_, rfl⟩
  have bV : Below w.heap.size w V := by rw [← hV]; exact ((Below.refl _ _).alloc (Nat.le_refl _) _).alloc (by simp) _
  have EV : Hid (Box V w.heap.size 31 #[.slice (some ⟨b, off, none⟩) n ec]) := by unfold Hid; rw [← hV]; exact (Box.new _ _ _).alloc _
  have XV : Hid (Box V (w.heap.size + 1) 62 #[.int .i64 x.o, .int .i64 x.a, .int .i64 x.b, .int .i64 x.c, .int .i64 x.k, .int .i64 x.n, .string x.t]) := by unfold Hid; rw [← hV]; exact Box.new2 _ _ _ _
  have OV : Hid (V.ownsRow B 50 5 (.slice a M.length cap) M.length (cellsI M)) := own_below h bV
  have RV : Hid (RdE V (some ⟨b, off, none⟩) n L) := hr.below bV
  have HbV : Hid (Below w.heap.size w V) := bV
  have HBK : Hid (∀ g, ob a = some g → B ≤ g ∧ g < w.heap.size) := App.blk h
  have hbB : b < B := hea b off rfl
  have lV : w.heap.size + 1 < V.heap.size := XV.out.lt
  have lBV : B ≤ V.heap.size := by omega
  have p0 : V.cell? ⟨w.heap.size, 0, none⟩ = some (.slice (some ⟨b, off, none⟩) n ec) := EV.out.cell 0
  obtain ⟨q0, q1, q2, q3, q4, q5, q6⟩ := box7 XV.out
  clear hc hx hr h bV hea
  obtain ⟨VN, hVN⟩ : ∃ W, V.alloc (.cells #[.int .i64 2, .int .i64 x.c, .int .i64 0, .int .i64 0, .string ⟨#[]⟩] 50) = W := ⟨_, rfl⟩
  have bVN : Hid (Below V.heap.size V VN) := by unfold Hid; rw [← hVN]; exact (Below.refl _ _).alloc (Nat.le_refl _) _
  have BVN : Hid (Box VN V.heap.size 50 #[.int .i64 2, .int .i64 x.c, .int .i64 0, .int .i64 0, .string ⟨#[]⟩]) := by unfold Hid; rw [← hVN]; exact Box.new _ _ _
  have OVN : Hid (VN.ownsRow B 50 5 (.slice a M.length cap) M.length (cellsI M)) := own_below OV.out bVN.out
  have lVN : B ≤ VN.heap.size := by have := bVN.out.size; omega
  go_enter Try.func15, Try.ntmps15
  go_wp2_with (at_builtin; refine app_any _ rfl (.tmp 28) (.tmp 32) 26 rfl B 50 iI (.agg #[.int .i64 0, .int .i64 0, .int .i64 0, .int .i64 0, .string ⟨#[]⟩]) 5 48 Try.underlying26 hiI.out hz0.out hz1.out hz2.out rfl (by omega) (.slice a M.length cap) M.length (cellsI M) rfl OVN.out _ 1 1 (cI (⟨2, x.c, 0, 0, ⟨#[]⟩⟩ : IN)) rfl (fun ex => by cases ex) rfl (news_box (⟨2, x.c, 0, 0, ⟨#[]⟩⟩ : IN) BVN.out) (oneI _) (by unfold maxLen; omega) (by omega) lVN ?_; intro a2 c2 w5 ho5 hg5 hx5; rw [ob_slice] at hg5 hx5; have A5 : Hid (App V w5 B a a2 c2 (M ++ [(⟨2, x.c, 0, 0, ⟨#[]⟩⟩ : IN)])) := (app_fin bVN.out ho5 hg5 hx5); clear ho5 hg5 hx5)
  go_ret
  exact ⟨a2, c2, by rw [snocLen]; rfl, A5.out.pre HbV.out⟩
set_option maxRecDepth 100000 in
set_option maxHeartbeats 4000000 in
theorem c_lp_una (L : List EN) (n : Nat) (hn : n ≤ 1048576) (k : Nat) (x : EN) (hk : k < n) (hx : x = L.getD k zeroE) (ea : Option Addr) (ec : Nat) (M : List IN) (a : Option Addr) (cap B : Nat) (w : World) (hr : RdE w ea n L) (hea : ∀ b off, ea = some ⟨b, off, none⟩ → b < B) (h : w.ownsRow B 50 5 (.slice a M.length cap) M.length (cellsI M)) (hB : B ≤ w.heap.size) (o1 : (x.o == 1) = false) (o2 : (x.o == 2) = false) (u : x.o ≤ 5) (k' f fu : Nat) (p : PT) (IH : Hid (IHS L n fu)) (hk' : k = k' + 1) (hA : x.a = (k' : Int)) (hpF : pF L fu (k' + 1) = some (p, f)) (hl : M.length + 2 * p.cnt + 2 ≤ 1000) :
    Calls Try.prog 15 #[.agg #[.slice ea n ec], .int .i64 (k : Int), .slice a M.length cap] w fun e w' => APost w w' B a (M ++ codeP p M.length ++ [(⟨3, x.o, 0, 0, ⟨#[]⟩⟩ : IN)]) e := by
  obtain ⟨iI, giV, gz0, gz1, gz2⟩ := info_parts infoIns
  have hiI : Hid (Try.prog.info? 50 = some iI) := giV
  have hz0 : Hid (iI.zero = some (.agg #[.int .i64 0, .int .i64 0, .int .i64 0, .int .i64 0, .string ⟨#[]⟩])) := gz0
  have hz1 : Hid (iI.size = 5) := gz1
  have hz2 : Hid (iI.bytes = 48) := gz2
  clear giV gz0 gz1 gz2
  obtain ⟨b, off, rfl, hbl, hc⟩ := hr.2 (by omega)
  obtain ⟨d0, d1, d2, d3, d4, d5, d6⟩ := RdE.at hc hk hx
  have g1 : (0 : Int) ≤ (k : Int) := by omega
  have g2 : (k : Int) < (n : Int) := by omega
  obtain ⟨V, hV⟩ : ∃ V, (w.alloc (.cells #[.slice (some ⟨b, off, none⟩) n ec] 31)).alloc (.cells #[.int .i64 x.o, .int .i64 x.a, .int .i64 x.b, .int .i64 x.c, .int .i64 x.k, .int .i64 x.n, .string x.t] 62) = V := ⟨_, rfl⟩
  have bV : Below w.heap.size w V := by rw [← hV]; exact ((Below.refl _ _).alloc (Nat.le_refl _) _).alloc (by simp) _
  have EV : Hid (Box V w.heap.size 31 #[.slice (some ⟨b, off, none⟩) n ec]) := by unfold Hid; rw [← hV]; exact (Box.new _ _ _).alloc _
  have XV : Hid (Box V (w.heap.size + 1) 62 #[.int .i64 x.o, .int .i64 x.a, .int .i64 x.b, .int .i64 x.c, .int .i64 x.k, .int .i64 x.n, .string x.t]) := by unfold Hid; rw [← hV]; exact Box.new2 _ _ _ _
  have OV : Hid (V.ownsRow B 50 5 (.slice a M.length cap) M.length (cellsI M)) := own_below h bV
  have RV : Hid (RdE V (some ⟨b, off, none⟩) n L) := hr.below bV
  have HbV : Hid (Below w.heap.size w V) := bV
  have HBK : Hid (∀ g, ob a = some g → B ≤ g ∧ g < w.heap.size) := App.blk h
  have hbB : b < B := hea b off rfl
  have lV : w.heap.size + 1 < V.heap.size := XV.out.lt
  have lBV : B ≤ V.heap.size := by omega
  have p0 : V.cell? ⟨w.heap.size, 0, none⟩ = some (.slice (some ⟨b, off, none⟩) n ec) := EV.out.cell 0
  obtain ⟨q0, q1, q2, q3, q4, q5, q6⟩ := box7 XV.out
  clear hc hx hr h bV hea
  have CH : Hid (∀ (W : World) (a : Option Addr) (cap : Nat) (M : List IN), RdE W (some ⟨b, off, none⟩) n L → W.ownsRow B 50 5 (.slice a M.length cap) M.length (cellsI M) → B ≤ W.heap.size → M.length + 2 * p.cnt ≤ 1000 → Calls Try.prog 15 #[.agg #[.slice (some ⟨b, off, none⟩) n ec], .int .i64 (k' : Int), .slice a M.length cap] W fun e w' => APost W w' B a (M ++ codeP p M.length) e) := fun W a cap M hR hO hW hM => IH.out k' p f hpF (by omega) _ ec M a cap B W hR (fun b' off' e => by cases e; exact hbB) hO hW hM
  have NBKV : Hid (∀ g, ob a = some g → B ≤ g ∧ g ≠ w.heap.size ∧ g ≠ w.heap.size + 1) := fun g e => by have := HBK.out g e; exact ⟨this.1, by omega, by omega⟩
  have lVV := lV
  rw [hA] at q1
  have HAx : Hid (x.a = (k' : Int)) := hA
  have HK : Hid (k = k' + 1) := hk'
  clear hA hpF IH hk'
  go_enter Try.func15, Try.ntmps15
  have Cw1 := CH.out V a cap M RV.out OV.out lBV (by omega)
  obtain ⟨M1, hM1⟩ : ∃ x, M ++ codeP p M.length = x := ⟨_, rfl⟩
  have hM1l : M1.length + 1 ≤ M.length + 2 * p.cnt := by rw [← hM1, List.length_append]; have := code_len p M.length; omega
  have hM1g : M1.length = M.length + (codeP p M.length).length := by rw [← hM1, List.length_append]
  have HM1G : Hid (M1.length = M.length + (codeP p M.length).length) := hM1g
  rw [hM1] at Cw1
  have HM1 : Hid (M ++ codeP p M.length = M1) := hM1
  clear hM1 hM1g
  go_wp2_with fail
  refine Cw1.mono ?_
  rintro e w1 ⟨a1, c1, rfl, Aw1⟩
  have Ew1 : Hid (Box w1 w.heap.size 31 #[.slice (some ⟨b, off, none⟩) n ec]) := Aw1.box EV.out (fun e => by have := NBKV.out _ e; omega)
  have Xw1 : Hid (Box w1 (w.heap.size + 1) 62 #[.int .i64 x.o, .int .i64 x.a, .int .i64 x.b, .int .i64 x.c, .int .i64 x.k, .int .i64 x.n, .string x.t]) := Aw1.box XV.out (fun e => by have := NBKV.out _ e; omega)
  have Ow1 : Hid (w1.ownsRow B 50 5 (.slice a1 M1.length c1) M1.length (cellsI M1)) := Aw1.own
  have Rw1 : Hid (RdE w1 (some ⟨b, off, none⟩) n L) := RdE.app Aw1 RV.out (fun b' off' e q => by cases e; have := NBKV.out _ q; omega)
  have HAw1 : Hid (App V w1 B a a1 c1 M1) := Aw1
  have lw1 : w.heap.size + 1 < w1.heap.size := Xw1.out.lt
  have lBw1 : B ≤ w1.heap.size := by omega
  have NBKw1 : Hid (∀ g, ob a1 = some g → B ≤ g ∧ g ≠ w.heap.size ∧ g ≠ w.heap.size + 1) := fun g e => by
    rcases Aw1.new g e with q | q
    · exact NBKV.out g q
    · have := lVV
      exact ⟨by omega, by omega, by omega⟩
  clear Aw1 Cw1 p0 q0 q1 q2 q3 q4 q5 q6
  have p0 : w1.cell? ⟨w.heap.size, 0, none⟩ = some (.slice (some ⟨b, off, none⟩) n ec) := Ew1.out.cell 0
  obtain ⟨q0, q1, q2, q3, q4, q5, q6⟩ := box7 Xw1.out
  have lVw1 := lw1
  obtain ⟨VN, hVN⟩ : ∃ W, w1.alloc (.cells #[.int .i64 3, .int .i64 x.o, .int .i64 0, .int .i64 0, .string ⟨#[]⟩] 50) = W := ⟨_, rfl⟩
  have bVN : Hid (Below w1.heap.size w1 VN) := by unfold Hid; rw [← hVN]; exact (Below.refl _ _).alloc (Nat.le_refl _) _
  have BVN : Hid (Box VN w1.heap.size 50 #[.int .i64 3, .int .i64 x.o, .int .i64 0, .int .i64 0, .string ⟨#[]⟩]) := by unfold Hid; rw [← hVN]; exact Box.new _ _ _
  have OVN : Hid (VN.ownsRow B 50 5 (.slice a1 M1.length c1) M1.length (cellsI M1)) := own_below Ow1.out bVN.out
  have lVN : B ≤ VN.heap.size := by have := bVN.out.size; omega
  go_wp2_with (at_builtin; refine app_any _ rfl (.tmp 42) (.tmp 46) 26 rfl B 50 iI (.agg #[.int .i64 0, .int .i64 0, .int .i64 0, .int .i64 0, .string ⟨#[]⟩]) 5 48 Try.underlying26 hiI.out hz0.out hz1.out hz2.out rfl (by omega) (.slice a1 M1.length c1) M1.length (cellsI M1) rfl OVN.out _ 1 1 (cI (⟨3, x.o, 0, 0, ⟨#[]⟩⟩ : IN)) rfl (fun ex => by cases ex) rfl (news_box (⟨3, x.o, 0, 0, ⟨#[]⟩⟩ : IN) BVN.out) (oneI _) (by unfold maxLen; omega) (by omega) lVN ?_; intro a2 c2 w5 ho5 hg5 hx5; rw [ob_slice] at hg5 hx5; have A5 : Hid (App w1 w5 B a1 a2 c2 (M1 ++ [(⟨3, x.o, 0, 0, ⟨#[]⟩⟩ : IN)])) := (app_fin bVN.out ho5 hg5 hx5); clear ho5 hg5 hx5)
  go_ret
  exact ⟨a2, c2, by rw [HM1.out, snocLen]; rfl, by rw [HM1.out]; exact (HAw1.out.trans A5.out).pre HbV.out⟩

end Go.Proofs.Ytepeaabacfjheaa
