/-
  The program's appendJoin, and appendCode of any part.
-/
import Derived.Test.YtepeaabacfjheaaKd
import Derived.Deep.RegionHeld3
import Derived.Deep.RegionLaw
namespace Go.Proofs.Ytepeaabacfjheaa
open Go Go.RowKit
attribute [local go_sem ↓] Go.wp_at_zero Go.wp_at_succ

set_option linter.unusedVariables false
set_option linter.unusedSimpArgs false
set_option maxRecDepth 100000 in
set_option maxHeartbeats 4000000 in
theorem c_jo (op : Int) (w : World) : Calls Try.prog 40 #[.int .i64 op] w fun e w' => e = .returned (.int .i64 (jmpI op)) ∧ w' = w := by
  by_cases h1 : op = 12
  · subst h1
    go_enter Try.func40, Try.ntmps40
    go_wp2
    go_ret
    exact ⟨rfl, rfl⟩
  · by_cases h2 : op = 13
    · subst h2
      go_enter Try.func40, Try.ntmps40
      go_wp2
      go_ret
      exact ⟨rfl, rfl⟩
    · have e1 : (op == 12) = false := by simp [h1]
      have e2 : (op == 13) = false := by simp [h2]
      have E : Hid (jmpI op = 0) := by unfold Hid jmpI; rw [if_neg h1, if_neg h2]
      clear h1 h2
      go_enter Try.func40, Try.ntmps40
      go_wp2
      go_ret
      exact ⟨by rw [E.out]; rfl, rfl⟩
theorem getD_mid (A C : List IN) (x : IN) : (A ++ x :: C).getD A.length zeroI = x := by
  rw [List.getD_eq_getElem?_getD, List.getElem?_append_right (Nat.le_refl _), Nat.sub_self]; rfl
theorem own_addr {w : World} {B cap : Nat} {a : Option Addr} {M : List IN} (h : w.ownsRow B 50 5 (.slice a M.length cap) M.length (cellsI M)) (h0 : 0 < M.length) (i : Nat) (hi : i < M.length) : ∃ g, a = some ⟨g, 0, none⟩ ∧ (∃ u, w.cell? ⟨g, i * 5 + 1, none⟩ = some u) ∧ w.frozen? ⟨g, i * 5 + 1, none⟩ = false := by
  rcases own_form h with ⟨_, e⟩ | ⟨g, c, hv, hb, hl⟩
  · omega
  · simp only [Value.slice.injEq] at hv
    obtain ⟨rfl, _, rfl⟩ := hv
    exact ⟨g, rfl, ⟨_, (h.cellAt (i * 5 + 1) (by omega)).trans (List.getElem?_eq_getElem (by rw [cellsI_len]; omega))⟩, h.frozenAt _⟩
theorem App.setp {w w' : World} {B g cap' : Nat} {a : Option Addr} {M : List IN} (h : App w w' B a (some ⟨g, 0, none⟩) cap' M) (i : Nat) (q : Int) (hi : i < M.length) : App w (w'.setCell ⟨g, i * 5 + 1, none⟩ (.int .i64 q)) B a (some ⟨g, 0, none⟩) cap' (M.set i { (M.getD i zeroI) with p := q }) := by
  have hs := (h.own.stored (i * 5 + 1) (.int .i64 q)).1
  rw [cells_setp M i q hi] at hs
  refine ⟨by rw [List.length_set]; exact hs, ⟨h.gr.os, h.gr.tape, h.gr.output, by simpa using h.gr.size, fun j hj hne => ?_⟩, h.new⟩
  rw [Below.heap_setCell _ _ _ j (by show j ≠ g; rintro rfl; rcases h.new j rfl with e | e; exact hne e.symm; omega)]
  exact h.gr.block j hj hne
set_option maxRecDepth 100000 in
set_option maxHeartbeats 4000000 in
theorem c_aj_no (op : Int) (l r : PT) (IHl : Hid (∀ (M : List IN) (a : Option Addr) (cap B : Nat) (w : World), w.ownsRow B 50 5 (.slice a M.length cap) M.length (cellsI M) → B ≤ w.heap.size → M.length + 2 * l.cnt ≤ 1000 → Calls Try.prog 18 #[.slice a M.length cap, l.enc] w fun e w' => APost w w' B a (M ++ codeP l M.length) e)) (IHr : Hid (∀ (M : List IN) (a : Option Addr) (cap B : Nat) (w : World), w.ownsRow B 50 5 (.slice a M.length cap) M.length (cellsI M) → B ≤ w.heap.size → M.length + 2 * r.cnt ≤ 1000 → Calls Try.prog 18 #[.slice a M.length cap, r.enc] w fun e w' => APost w w' B a (M ++ codeP r M.length) e)) (M : List IN) (a : Option Addr) (cap B : Nat) (w : World) (h : w.ownsRow B 50 5 (.slice a M.length cap) M.length (cellsI M)) (hB : B ≤ w.heap.size) (hl : M.length + 2 * l.cnt + 2 * r.cnt + 2 ≤ 1000) (J : Int) (HJ : Hid (jmpI op = J)) (HZ : Hid (J = 0)) :
    Calls Try.prog 29 #[.slice a M.length cap, .agg #[.int .i64 op, l.enc, r.enc]] w fun e w' => APost w w' B a (M ++ codeP (.bin op l r) M.length) e := by
  obtain ⟨iI, giV, gz0, gz1, gz2⟩ := info_parts infoIns
  have hiI : Hid (Try.prog.info? 50 = some iI) := giV
  have hz0 : Hid (iI.zero = some (.agg #[.int .i64 0, .int .i64 0, .int .i64 0, .int .i64 0, .string ⟨#[]⟩])) := gz0
  have hz1 : Hid (iI.size = 5) := gz1
  have hz2 : Hid (iI.bytes = 48) := gz2
  clear giV gz0 gz1 gz2
  obtain ⟨T, lv, hlv⟩ := enc_if l
  obtain ⟨T2, rv, hrv⟩ := enc_if r
  rw [hlv] at IHl ⊢
  rw [hrv] at IHr ⊢
  clear hlv hrv
  obtain ⟨V, hV⟩ : ∃ V, w.alloc (.cells #[.int .i64 op, .iface T lv, .iface T2 rv] 69) = V := ⟨_, rfl⟩
  have bV : Below w.heap.size w V := by rw [← hV]; exact (Below.refl _ _).alloc (Nat.le_refl _) _
  have BV : Hid (Box V w.heap.size 69 #[.int .i64 op, .iface T lv, .iface T2 rv]) := by unfold Hid; rw [← hV]; exact Box.new _ _ _
  have HbV : Hid (Below w.heap.size w V) := bV
  have O0 := own_below h bV
  have nB : ∀ g, ob a = some g → g ≠ w.heap.size := fun g e => by have := App.blk h g e; omega
  have C1 := IHl.out M a cap B V O0 (by have := bV.size; omega) (by omega)
  obtain ⟨M1, hM1⟩ : ∃ x, M ++ codeP l M.length = x := ⟨_, rfl⟩
  have hM1l : M1.length = M.length + (codeP l M.length).length := by rw [← hM1, List.length_append]
  have hcl := code_len l M.length
  have hM1b : M1.length + 1 ≤ M.length + 2 * l.cnt := by omega
  rw [hM1] at C1
  have HM1 : Hid (M ++ codeP l M.length = M1) := hM1
  have HM1L : Hid (M1.length = M.length + (codeP l M.length).length) := hM1l
  obtain ⟨q0, q1, q2⟩ := box3p BV.out
  have lV : w.heap.size < V.heap.size := BV.out.lt
  have HnB : Hid (∀ g, ob a = some g → g ≠ w.heap.size) := nB
  clear h bV O0 nB hM1 hM1l hcl
  go_enter Try.func29, Try.ntmps29
  go_wp2_with fail
  refine C1.mono ?_
  rintro e w1 ⟨a1, c1, rfl, A1⟩
  have B1 : Hid (Box w1 w.heap.size 69 #[.int .i64 op, .iface T lv, .iface T2 rv]) := A1.box BV.out (fun e => HnB.out _ e rfl)
  have HA1 : Hid (App w w1 B a a1 c1 M1) := A1.pre HbV.out
  have s1 : w.heap.size < w1.heap.size := B1.out.lt
  have O1 : Hid (w1.ownsRow B 50 5 (.slice a1 M1.length c1) M1.length (cellsI M1)) := A1.own
  have lB1 : B ≤ w1.heap.size := by omega
  have N1 : Hid (∀ g, ob a1 = some g → g ≠ w.heap.size) := fun g e => by
    rcases A1.new g e with q | q
    · exact HnB.out g q
    · omega
  clear A1 C1 q0 q1 q2 BV HbV HnB hV
  obtain ⟨q0, q1, q2⟩ := box3p B1.out
  have CJ : Hid (∀ W, Calls Try.prog 40 #[.int .i64 op] W fun e w' => e = .returned (.int .i64 J) ∧ w' = W) := fun W => by rw [← HJ.out]; exact c_jo op W
  have hJ0 : (J != 0) = false := by rw [HZ.out]; rfl
  have OW := O1
  have lBW := lB1
  have B1N : Hid (ob a1 ≠ some w.heap.size) := fun e => N1.out _ e rfl
  go_wp2_with (go_at_call 40; refine (CJ.out _).mono ?_; rintro e w1 ⟨rfl, rfl⟩)
  have CA := IHr.out M1 a1 c1 B w1.drew (own_below OW.out (Below.refl _ _).drew) (show B ≤ w1.drew.heap.size from lBW) (by omega)
  have bN : Below w1.heap.size w1 (w1.drew.alloc (.cells #[.int .i64 4, .int .i64 op, .int .i64 0, .int .i64 0, .string ⟨#[]⟩] 50)) := (Below.refl _ _).drew.alloc (Nat.le_refl _) _
  have CB := IHr.out M1 a1 c1 B (w1.drew.alloc (.cells #[.int .i64 4, .int .i64 op, .int .i64 0, .int .i64 0, .string ⟨#[]⟩] 50)) (own_below OW.out bN) (by simp; omega) (by omega)
  have NB0 : Hid (Box (w1.drew.alloc (.cells #[.int .i64 4, .int .i64 op, .int .i64 0, .int .i64 0, .string ⟨#[]⟩] 50)) w1.heap.size 50 #[.int .i64 4, .int .i64 op, .int .i64 0, .int .i64 0, .string ⟨#[]⟩]) := Box.new w1.drew #[.int .i64 4, .int .i64 op, .int .i64 0, .int .i64 0, .string ⟨#[]⟩] 50
  obtain ⟨M2, hM2⟩ : ∃ x, M1 ++ codeP r M1.length = x := ⟨_, rfl⟩
  have hM2l : M2.length + 1 ≤ 1000 := by rw [← hM2, List.length_append]; have := code_len r M1.length; omega
  rw [hM2] at CA CB
  have HM2 : Hid (M1 ++ codeP r M1.length = M2) := hM2
  clear hM2
  have HBK : Hid (∀ g, ob a1 = some g → B ≤ g ∧ g < w1.heap.size) := App.blk OW.out
  have NBn : Hid (ob a1 ≠ some w1.heap.size) := fun e => by have := HBK.out _ e; omega
  have B1D : Hid (Box w1.drew w.heap.size 69 #[.int .i64 op, .iface T lv, .iface T2 rv]) := B1.out
  have B1E : Hid (Box (w1.drew.alloc (.cells #[.int .i64 4, .int .i64 op, .int .i64 0, .int .i64 0, .string ⟨#[]⟩] 50)) w.heap.size 69 #[.int .i64 op, .iface T lv, .iface T2 rv]) := B1.out.belowS bN
  have HbN : Hid (Below w1.heap.size w1 (w1.drew.alloc (.cells #[.int .i64 4, .int .i64 op, .int .i64 0, .int .i64 0, .string ⟨#[]⟩] 50))) := bN
  clear bN
  go_region_law (first
     | (rw [if_pos (by simp [Region.wanted])]
        go_simp
        go_at_call 18
        first
        | (refine CA.mono ?_
           rintro e wq ⟨aq, cq, rfl, Aq⟩
           have B1K : Hid (Box wq w.heap.size 69 #[.int .i64 op, .iface T lv, .iface T2 rv]) := Aq.box B1D.out (by exact B1N.out)
           obtain ⟨q0_1, q1_1, q2_1⟩ := box3p B1K.out
           have HAq : Hid (App w1 wq B a1 aq cq M2) := Aq.pre (Below.refl _ _).drew
           have sq : w1.heap.size ≤ wq.heap.size := Aq.gr.size
           have Oq : Hid (wq.ownsRow B 50 5 (.slice aq M2.length cq) M2.length (cellsI M2)) := Aq.own
           clear Aq)
        | (refine CB.mono ?_
           rintro e wq ⟨aq, cq, rfl, Aq⟩
           have B1K : Hid (Box wq w.heap.size 69 #[.int .i64 op, .iface T lv, .iface T2 rv]) := Aq.box B1E.out (by exact B1N.out)
           obtain ⟨q0_1, q1_1, q2_1⟩ := box3p B1K.out
           have NB1 : Hid (Box wq w1.heap.size 50 #[.int .i64 4, .int .i64 op, .int .i64 0, .int .i64 0, .string ⟨#[]⟩]) := Aq.box NB0.out (by exact NBn.out)
           have HAq : Hid (App w1 wq B a1 aq cq M2) := Aq.pre HbN.out
           have sq : w1.heap.size < wq.heap.size := NB1.out.lt
           have Oq : Hid (wq.ownsRow B 50 5 (.slice aq M2.length cq) M2.length (cellsI M2)) := Aq.own
           clear Aq)
        go_simp)
     | (refine step_app_any _ (by rfl) (.tmp 26) (.tmp 30) 26 (by rfl) B 50 iI (.agg #[.int .i64 0, .int .i64 0, .int .i64 0, .int .i64 0, .string ⟨#[]⟩]) 5 48 Try.underlying26 hiI.out hz0.out hz1.out hz2.out rfl (by omega) (.slice aq M2.length cq) M2.length (cellsI M2) (by rfl) (by first | exact Oq.out | exact own_below Oq.out ((Below.refl _ _).alloc (Nat.le_refl _) _)) _ 1 1 (cI (⟨4, op, 0, 0, ⟨#[]⟩⟩ : IN)) (by rfl) (fun ex => by cases ex) rfl (by first | exact news_box (⟨4, op, 0, 0, ⟨#[]⟩⟩ : IN) NB1.out | exact news_at _ (⟨4, op, 0, 0, ⟨#[]⟩⟩ : IN) _ rfl) (oneI _) (by unfold maxLen; omega) (by omega) (by first | (have := sq; omega) | (simp; omega)) ?_
        intro a2 c2 w5 ho5 hg5 hx5
        rw [ob_slice] at hg5 hx5
        have A5 : Hid (App w1 w5 B a1 a2 c2 (M2 ++ [(⟨4, op, 0, 0, ⟨#[]⟩⟩ : IN)])) := HAq.out.trans (app_fin (by first | exact Below.refl _ _ | exact (Below.refl _ _).alloc (Nat.le_refl _) _) ho5 hg5 hx5)
        clear ho5 hg5 hx5))
  all_goals
    go_wp2
    go_ret
    have E : M ++ codeP (.bin op l r) M.length = M2 ++ [(⟨4, op, 0, 0, ⟨#[]⟩⟩ : IN)] := by
      rw [codeP, if_pos (HJ.out.trans HZ.out), ← HM2.out, ← HM1.out]
      simp [List.append_assoc, List.length_append]
    exact ⟨a2, c2, by rw [E, snocLen]; rfl, by rw [E]; exact HA1.out.trans A5.out⟩
set_option maxRecDepth 100000 in
set_option maxHeartbeats 4000000 in
theorem c_aj_yes (op : Int) (l r : PT) (IHl : Hid (∀ (M : List IN) (a : Option Addr) (cap B : Nat) (w : World), w.ownsRow B 50 5 (.slice a M.length cap) M.length (cellsI M) → B ≤ w.heap.size → M.length + 2 * l.cnt ≤ 1000 → Calls Try.prog 18 #[.slice a M.length cap, l.enc] w fun e w' => APost w w' B a (M ++ codeP l M.length) e)) (IHr : Hid (∀ (M : List IN) (a : Option Addr) (cap B : Nat) (w : World), w.ownsRow B 50 5 (.slice a M.length cap) M.length (cellsI M) → B ≤ w.heap.size → M.length + 2 * r.cnt ≤ 1000 → Calls Try.prog 18 #[.slice a M.length cap, r.enc] w fun e w' => APost w w' B a (M ++ codeP r M.length) e)) (M : List IN) (a : Option Addr) (cap B : Nat) (w : World) (h : w.ownsRow B 50 5 (.slice a M.length cap) M.length (cellsI M)) (hB : B ≤ w.heap.size) (hl : M.length + 2 * l.cnt + 2 * r.cnt + 2 ≤ 1000) (J : Int) (HJ : Hid (jmpI op = J)) (HZ : Hid (¬ J = 0)) :
    Calls Try.prog 29 #[.slice a M.length cap, .agg #[.int .i64 op, l.enc, r.enc]] w fun e w' => APost w w' B a (M ++ codeP (.bin op l r) M.length) e := by
  obtain ⟨iI, giV, gz0, gz1, gz2⟩ := info_parts infoIns
  have hiI : Hid (Try.prog.info? 50 = some iI) := giV
  have hz0 : Hid (iI.zero = some (.agg #[.int .i64 0, .int .i64 0, .int .i64 0, .int .i64 0, .string ⟨#[]⟩])) := gz0
  have hz1 : Hid (iI.size = 5) := gz1
  have hz2 : Hid (iI.bytes = 48) := gz2
  clear giV gz0 gz1 gz2
  obtain ⟨T, lv, hlv⟩ := enc_if l
  obtain ⟨T2, rv, hrv⟩ := enc_if r
  rw [hlv] at IHl ⊢
  rw [hrv] at IHr ⊢
  clear hlv hrv
  obtain ⟨V, hV⟩ : ∃ V, w.alloc (.cells #[.int .i64 op, .iface T lv, .iface T2 rv] 69) = V := ⟨_, rfl⟩
  have bV : Below w.heap.size w V := by rw [← hV]; exact (Below.refl _ _).alloc (Nat.le_refl _) _
  have BV : Hid (Box V w.heap.size 69 #[.int .i64 op, .iface T lv, .iface T2 rv]) := by unfold Hid; rw [← hV]; exact Box.new _ _ _
  have HbV : Hid (Below w.heap.size w V) := bV
  have O0 := own_below h bV
  have nB : ∀ g, ob a = some g → g ≠ w.heap.size := fun g e => by have := App.blk h g e; omega
  have C1 := IHl.out M a cap B V O0 (by have := bV.size; omega) (by omega)
  obtain ⟨M1, hM1⟩ : ∃ x, M ++ codeP l M.length = x := ⟨_, rfl⟩
  have hM1l : M1.length = M.length + (codeP l M.length).length := by rw [← hM1, List.length_append]
  have hcl := code_len l M.length
  have hM1b : M1.length + 1 ≤ M.length + 2 * l.cnt := by omega
  rw [hM1] at C1
  have HM1 : Hid (M ++ codeP l M.length = M1) := hM1
  have HM1L : Hid (M1.length = M.length + (codeP l M.length).length) := hM1l
  obtain ⟨q0, q1, q2⟩ := box3p BV.out
  have lV : w.heap.size < V.heap.size := BV.out.lt
  have HnB : Hid (∀ g, ob a = some g → g ≠ w.heap.size) := nB
  clear h bV O0 nB hM1 hM1l hcl
  go_enter Try.func29, Try.ntmps29
  go_wp2_with fail
  refine C1.mono ?_
  rintro e w1 ⟨a1, c1, rfl, A1⟩
  have B1 : Hid (Box w1 w.heap.size 69 #[.int .i64 op, .iface T lv, .iface T2 rv]) := A1.box BV.out (fun e => HnB.out _ e rfl)
  have HA1 : Hid (App w w1 B a a1 c1 M1) := A1.pre HbV.out
  have s1 : w.heap.size < w1.heap.size := B1.out.lt
  have O1 : Hid (w1.ownsRow B 50 5 (.slice a1 M1.length c1) M1.length (cellsI M1)) := A1.own
  have lB1 : B ≤ w1.heap.size := by omega
  have N1 : Hid (∀ g, ob a1 = some g → g ≠ w.heap.size) := fun g e => by
    rcases A1.new g e with q | q
    · exact HnB.out g q
    · omega
  clear A1 C1 q0 q1 q2 BV HbV HnB hV
  obtain ⟨q0, q1, q2⟩ := box3p B1.out
  have CJ : Hid (∀ W, Calls Try.prog 40 #[.int .i64 op] W fun e w' => e = .returned (.int .i64 J) ∧ w' = W) := fun W => by rw [← HJ.out]; exact c_jo op W
  have hJ1 : (J != 0) = true := by simp [bne]; exact HZ.out
  obtain ⟨VN, hVN⟩ : ∃ W, w1.alloc (.cells #[.int .i64 J, .int .i64 0, .int .i64 0, .int .i64 0, .string ⟨#[]⟩] 50) = W := ⟨_, rfl⟩
  have bN : Below w1.heap.size w1 VN := by rw [← hVN]; exact (Below.refl _ _).alloc (Nat.le_refl _) _
  have NB1 : Hid (Box VN w1.heap.size 50 #[.int .i64 J, .int .i64 0, .int .i64 0, .int .i64 0, .string ⟨#[]⟩]) := by unfold Hid; rw [← hVN]; exact Box.new _ _ _
  have ON := own_below O1.out bN
  have HbN : Hid (Below w1.heap.size w1 VN) := bN
  have HON : Hid (VN.ownsRow B 50 5 (.slice a1 M1.length c1) M1.length (cellsI M1)) := ON
  have lBN : B ≤ VN.heap.size := by have := bN.size; omega
  clear bN ON
  go_wp2_with (first | (go_at_call 40; refine (CJ.out _).mono ?_; rintro e w1 ⟨rfl, rfl⟩) | (at_builtin; refine app_any _ rfl (.tmp 18) (.tmp 21) 26 rfl B 50 iI (.agg #[.int .i64 0, .int .i64 0, .int .i64 0, .int .i64 0, .string ⟨#[]⟩]) 5 48 Try.underlying26 hiI.out hz0.out hz1.out hz2.out rfl (by omega) (.slice a1 M1.length c1) M1.length (cellsI M1) rfl HON.out _ 1 1 (cI (⟨J, 0, 0, 0, ⟨#[]⟩⟩ : IN)) rfl (fun ex => by cases ex) rfl (news_box (⟨J, 0, 0, 0, ⟨#[]⟩⟩ : IN) NB1.out) (oneI _) (by unfold maxLen; omega) (by omega) lBN ?_; intro aj cj w2 ho5 hg5 hx5; rw [ob_slice] at hg5 hx5; have A2 : Hid (App w1 w2 B a1 aj cj (M1 ++ [(⟨J, 0, 0, 0, ⟨#[]⟩⟩ : IN)])) := (app_fin HbN.out ho5 hg5 hx5); clear ho5 hg5 hx5))
  obtain ⟨MJ, hMJ⟩ : ∃ x, M1 ++ [(⟨J, 0, 0, 0, ⟨#[]⟩⟩ : IN)] = x := ⟨_, rfl⟩
  have hMJL : MJ.length = M1.length + 1 := by rw [← hMJ, snocLen]
  have HMJ : Hid (M1 ++ [(⟨J, 0, 0, 0, ⟨#[]⟩⟩ : IN)] = MJ) := hMJ
  have HMJL : Hid (MJ.length = M1.length + 1) := hMJL
  rw [hMJ] at A2
  rw [← hMJL]
  have hMJb : MJ.length ≤ M.length + 2 * l.cnt := by omega
  clear hMJ hMJL
  have B2 : Hid (Box w2 w.heap.size 69 #[.int .i64 op, .iface T lv, .iface T2 rv]) := A2.out.box B1.out (fun e => N1.out _ e rfl)
  have OW : Hid (w2.ownsRow B 50 5 (.slice aj MJ.length cj) MJ.length (cellsI MJ)) := A2.out.own
  have s2 : w.heap.size < w2.heap.size := B2.out.lt
  have lBW : B ≤ w2.heap.size := by omega
  have B2N : Hid (ob aj ≠ some w.heap.size) := fun e => by
    rcases A2.out.new _ e with q | q
    · exact N1.out _ q rfl
    · omega
  clear q0 q1 q2 NB1 HON HbN hVN
  obtain ⟨q0, q1, q2⟩ := box3p B2.out
  have CA := IHr.out MJ aj cj B w2.drew (own_below OW.out (Below.refl _ _).drew) (show B ≤ w2.drew.heap.size from lBW) (by omega)
  have bN : Below w2.heap.size w2 (w2.drew.alloc (.cells #[.int .i64 4, .int .i64 op, .int .i64 0, .int .i64 0, .string ⟨#[]⟩] 50)) := (Below.refl _ _).drew.alloc (Nat.le_refl _) _
  have CB := IHr.out MJ aj cj B (w2.drew.alloc (.cells #[.int .i64 4, .int .i64 op, .int .i64 0, .int .i64 0, .string ⟨#[]⟩] 50)) (own_below OW.out bN) (by simp; omega) (by omega)
  have NB0 : Hid (Box (w2.drew.alloc (.cells #[.int .i64 4, .int .i64 op, .int .i64 0, .int .i64 0, .string ⟨#[]⟩] 50)) w2.heap.size 50 #[.int .i64 4, .int .i64 op, .int .i64 0, .int .i64 0, .string ⟨#[]⟩]) := Box.new w2.drew #[.int .i64 4, .int .i64 op, .int .i64 0, .int .i64 0, .string ⟨#[]⟩] 50
  obtain ⟨M2, hM2⟩ : ∃ x, MJ ++ codeP r MJ.length = x := ⟨_, rfl⟩
  have hM2l : M2.length + 1 ≤ 1000 := by rw [← hM2, List.length_append]; have := code_len r MJ.length; omega
  rw [hM2] at CA CB
  have HM2 : Hid (MJ ++ codeP r MJ.length = M2) := hM2
  clear hM2
  have HBK : Hid (∀ g, ob aj = some g → B ≤ g ∧ g < w2.heap.size) := App.blk OW.out
  have NBn : Hid (ob aj ≠ some w2.heap.size) := fun e => by have := HBK.out _ e; omega
  have B2D : Hid (Box w2.drew w.heap.size 69 #[.int .i64 op, .iface T lv, .iface T2 rv]) := B2.out
  have B2E : Hid (Box (w2.drew.alloc (.cells #[.int .i64 4, .int .i64 op, .int .i64 0, .int .i64 0, .string ⟨#[]⟩] 50)) w.heap.size 69 #[.int .i64 op, .iface T lv, .iface T2 rv]) := B2.out.belowS bN
  have HbN : Hid (Below w2.heap.size w2 (w2.drew.alloc (.cells #[.int .i64 4, .int .i64 op, .int .i64 0, .int .i64 0, .string ⟨#[]⟩] 50))) := bN
  clear bN
  go_region_law (first
     | (rw [if_pos (by simp [Region.wanted])]
        go_simp
        go_at_call 18
        first
        | (refine CA.mono ?_
           rintro e wq ⟨aq, cq, rfl, Aq⟩
           have B2K : Hid (Box wq w.heap.size 69 #[.int .i64 op, .iface T lv, .iface T2 rv]) := Aq.box B2D.out (by exact B2N.out)
           obtain ⟨q0_1, q1_1, q2_1⟩ := box3p B2K.out
           have HAq : Hid (App w2 wq B aj aq cq M2) := Aq.pre (Below.refl _ _).drew
           have sq : w2.heap.size ≤ wq.heap.size := Aq.gr.size
           have Oq : Hid (wq.ownsRow B 50 5 (.slice aq M2.length cq) M2.length (cellsI M2)) := Aq.own
           clear Aq)
        | (refine CB.mono ?_
           rintro e wq ⟨aq, cq, rfl, Aq⟩
           have B2K : Hid (Box wq w.heap.size 69 #[.int .i64 op, .iface T lv, .iface T2 rv]) := Aq.box B2E.out (by exact B2N.out)
           obtain ⟨q0_1, q1_1, q2_1⟩ := box3p B2K.out
           have NB1 : Hid (Box wq w2.heap.size 50 #[.int .i64 4, .int .i64 op, .int .i64 0, .int .i64 0, .string ⟨#[]⟩]) := Aq.box NB0.out (by exact NBn.out)
           have HAq : Hid (App w2 wq B aj aq cq M2) := Aq.pre HbN.out
           have sq : w2.heap.size < wq.heap.size := NB1.out.lt
           have Oq : Hid (wq.ownsRow B 50 5 (.slice aq M2.length cq) M2.length (cellsI M2)) := Aq.own
           clear Aq)
        go_simp)
     | (refine step_app_any _ (by rfl) (.tmp 26) (.tmp 30) 26 (by rfl) B 50 iI (.agg #[.int .i64 0, .int .i64 0, .int .i64 0, .int .i64 0, .string ⟨#[]⟩]) 5 48 Try.underlying26 hiI.out hz0.out hz1.out hz2.out rfl (by omega) (.slice aq M2.length cq) M2.length (cellsI M2) (by rfl) (by first | exact Oq.out | exact own_below Oq.out ((Below.refl _ _).alloc (Nat.le_refl _) _)) _ 1 1 (cI (⟨4, op, 0, 0, ⟨#[]⟩⟩ : IN)) (by rfl) (fun ex => by cases ex) rfl (by first | exact news_box (⟨4, op, 0, 0, ⟨#[]⟩⟩ : IN) NB1.out | exact news_at _ (⟨4, op, 0, 0, ⟨#[]⟩⟩ : IN) _ rfl) (oneI _) (by unfold maxLen; omega) (by omega) (by first | (have := sq; omega) | (simp; omega)) ?_
        intro a2 c2 w5 ho5 hg5 hx5
        rw [ob_slice] at hg5 hx5
        have A5 : Hid (App w2 w5 B aj a2 c2 (M2 ++ [(⟨4, op, 0, 0, ⟨#[]⟩⟩ : IN)])) := HAq.out.trans (app_fin (by first | exact Below.refl _ _ | exact (Below.refl _ _).alloc (Nat.le_refl _) _) ho5 hg5 hx5)
        clear ho5 hg5 hx5))
  all_goals
    have AF : Hid (App w w5 B a a2 c2 (M2 ++ [(⟨4, op, 0, 0, ⟨#[]⟩⟩ : IN)])) := (HA1.out.trans A2.out).trans A5.out
    have hfl : (M2 ++ [(⟨4, op, 0, 0, ⟨#[]⟩⟩ : IN)]).length = M2.length + 1 := snocLen _ _
    have hM2L : MJ.length ≤ M2.length := by rw [← HM2.out, List.length_append]; omega
    have hJL := HMJL.out
    obtain ⟨g, hg, hgc, hgf⟩ := own_addr AF.out.own (by omega) M1.length (by omega)
    subst hg
    obtain ⟨u0, hu0⟩ := hgc
    have g1 : (0 : Int) ≤ (M1.length : Int) := by omega
    have g2 : (M1.length : Int) < (M2.length : Int) + 1 := by omega
    have AS := AF.out.setp M1.length ((M2.length : Int) + 1) (by omega)
    have HAS : Hid (App w (w5.setCell ⟨g, M1.length * 5 + 1, none⟩ (.int .i64 ((M2.length : Int) + 1))) B a (some ⟨g, 0, none⟩) c2 ((M2 ++ [(⟨4, op, 0, 0, ⟨#[]⟩⟩ : IN)]).set M1.length { ((M2 ++ [(⟨4, op, 0, 0, ⟨#[]⟩⟩ : IN)]).getD M1.length zeroI) with p := (M2.length : Int) + 1 })) := AS
    have E : Hid ((M2 ++ [(⟨4, op, 0, 0, ⟨#[]⟩⟩ : IN)]).set M1.length { ((M2 ++ [(⟨4, op, 0, 0, ⟨#[]⟩⟩ : IN)]).getD M1.length zeroI) with p := (M2.length : Int) + 1 } = M ++ codeP (.bin op l r) M.length) := by
      unfold Hid
      have e2 : M2 = M1 ++ (⟨J, 0, 0, 0, ⟨#[]⟩⟩ : IN) :: codeP r MJ.length := by rw [← HM2.out, ← HMJ.out, List.append_assoc]; rfl
      have e3 : M2 ++ [(⟨4, op, 0, 0, ⟨#[]⟩⟩ : IN)] = M1 ++ (⟨J, 0, 0, 0, ⟨#[]⟩⟩ : IN) :: (codeP r MJ.length ++ [(⟨4, op, 0, 0, ⟨#[]⟩⟩ : IN)]) := by rw [e2, List.append_assoc]; rfl
      rw [e3, getD_mid, set_mid, codeP, if_neg (by rw [HJ.out]; exact HZ.out), HJ.out, ← HM1L.out, ← HMJL.out, ← HM1.out]
      have e4 : (M2.length : Int) + 1 = ((MJ.length + (codeP r MJ.length).length + 1 : Nat) : Int) := by
        have := congrArg List.length HM2.out
        rw [List.length_append] at this
        omega
      rw [e4]
      simp [List.append_assoc]
    have HL2 : Hid ((M ++ codeP (.bin op l r) M.length).length = M2.length + 1) := by unfold Hid; rw [← E.out, List.length_set, hfl]
    clear AS AF hfl hM2L hJL A5
    go_wp2
    go_ret
    refine ⟨_, c2, by rw [HL2.out]; rfl, ?_⟩
    rw [← E.out]
    exact HAS.out

end Go.Proofs.Ytepeaabacfjheaa
