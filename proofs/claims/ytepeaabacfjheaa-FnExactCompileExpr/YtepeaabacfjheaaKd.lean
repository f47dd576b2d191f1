/-
  The program's appendCode.
-/
import Derived.Test.YtepeaabacfjheaaKc
import Derived.Deep.RegionHeld3
import Derived.Deep.RegionLaw
namespace Go.Proofs.Ytepeaabacfjheaa
open Go Go.RowKit
attribute [local go_sem ↓] Go.wp_at_zero Go.wp_at_succ

set_option linter.unusedVariables false
set_option linter.unusedSimpArgs false
theorem news_at (X : World) (x : IN) (g : Nat) (hg : X.heap.size = g) : ∀ ad, some (⟨g, 0, none⟩ : Addr) = some ad → ∀ j y, (cI x)[j]? = some y → (X.alloc (.cells #[.int .i64 x.o, .int .i64 x.p, .int .i64 x.k, .int .i64 x.n, .string x.t] 50)).cell? (ad.add j) = some y := by
  intro ad ea j y hj
  cases ea
  have hx := (Box.new X #[.int .i64 x.o, .int .i64 x.p, .int .i64 x.k, .int .i64 x.n, .string x.t] 50).cell j
  rw [hg] at hx
  rw [addr_add, Nat.zero_add, hx]
  simpa [cI] using hj
def APost (w w' : World) (B : Nat) (a : Option Addr) (M : List IN) (e : Ending) : Prop := ∃ a' cap', e = .returned (.slice a' M.length cap') ∧ App w w' B a a' cap' M
theorem ta_con_bin (k n : Int) (t : ByteArray) (wx : World) : (Instr.typeAssert (.iface 79 (.agg #[.int .i64 k, .int .i64 n, .string t])) 43 69 true).run Try.prog wx = .ok (.tuple #[(.agg #[.int .i64 0, .nilIface, .nilIface]), .bool false]) wx := by kernel_rfl
theorem ta_con_una (k n : Int) (t : ByteArray) (wx : World) : (Instr.typeAssert (.iface 79 (.agg #[.int .i64 k, .int .i64 n, .string t])) 43 73 true).run Try.prog wx = .ok (.tuple #[(.agg #[.int .i64 0, .nilIface]), .bool false]) wx := by kernel_rfl
theorem ta_con_col (k n : Int) (t : ByteArray) (wx : World) : (Instr.typeAssert (.iface 79 (.agg #[.int .i64 k, .int .i64 n, .string t])) 43 76 true).run Try.prog wx = .ok (.tuple #[(.agg #[.int .i64 0]), .bool false]) wx := by kernel_rfl
theorem ta_col_bin (c : Int) (wx : World) : (Instr.typeAssert (.iface 76 (.agg #[.int .i64 c])) 43 69 true).run Try.prog wx = .ok (.tuple #[(.agg #[.int .i64 0, .nilIface, .nilIface]), .bool false]) wx := by kernel_rfl
theorem ta_col_una (c : Int) (wx : World) : (Instr.typeAssert (.iface 76 (.agg #[.int .i64 c])) 43 73 true).run Try.prog wx = .ok (.tuple #[(.agg #[.int .i64 0, .nilIface]), .bool false]) wx := by kernel_rfl
theorem ta_col_col (c : Int) (wx : World) : (Instr.typeAssert (.iface 76 (.agg #[.int .i64 c])) 43 76 true).run Try.prog wx = .ok (.tuple #[(.agg #[.int .i64 c]), .bool true]) wx := by kernel_rfl
theorem ta_una_bin (op : Int) (p : Value) (wx : World) : (Instr.typeAssert (.iface 73 (.agg #[.int .i64 op, p])) 43 69 true).run Try.prog wx = .ok (.tuple #[(.agg #[.int .i64 0, .nilIface, .nilIface]), .bool false]) wx := by kernel_rfl
theorem ta_una_una (op : Int) (p : Value) (wx : World) : (Instr.typeAssert (.iface 73 (.agg #[.int .i64 op, p])) 43 73 true).run Try.prog wx = .ok (.tuple #[(.agg #[.int .i64 op, p]), .bool true]) wx := by kernel_rfl
theorem ta_bin_bin (op : Int) (l r : Value) (wx : World) : (Instr.typeAssert (.iface 69 (.agg #[.int .i64 op, l, r])) 43 69 true).run Try.prog wx = .ok (.tuple #[(.agg #[.int .i64 op, l, r]), .bool true]) wx := by kernel_rfl
theorem ta_con (k n : Int) (t : ByteArray) (wx : World) : (Instr.typeAssert (.iface 79 (.agg #[.int .i64 k, .int .i64 n, .string t])) 43 79 false).run Try.prog wx = .ok (.agg #[.int .i64 k, .int .i64 n, .string t]) wx := by kernel_rfl
theorem fl_con (k n : Int) (t : ByteArray) (wx : World) : (Instr.field 79 (.agg #[.int .i64 k, .int .i64 n, .string t]) 0).run Try.prog wx = .ok (.agg #[.int .i64 k, .int .i64 n, .string t]) wx := by kernel_rfl
set_option maxRecDepth 100000 in
set_option maxHeartbeats 4000000 in
theorem c_ac_con (k n : Int) (t : ByteArray) (M : List IN) (a : Option Addr) (cap B : Nat) (w : World) (h : w.ownsRow B 50 5 (.slice a M.length cap) M.length (cellsI M)) (hB : B ≤ w.heap.size) (hl : M.length ≤ 1000) :
    Calls Try.prog 18 #[.slice a M.length cap, .iface 79 (.agg #[.int .i64 k, .int .i64 n, .string t])] w fun e w' => APost w w' B a (M ++ [(⟨1, 0, k, n, t⟩ : IN)]) e := by
  obtain ⟨iI, giV, gz0, gz1, gz2⟩ := info_parts infoIns
  have hiI : Hid (Try.prog.info? 50 = some iI) := giV
  have hz0 : Hid (iI.zero = some (.agg #[.int .i64 0, .int .i64 0, .int .i64 0, .int .i64 0, .string ⟨#[]⟩])) := gz0
  have hz1 : Hid (iI.size = 5) := gz1
  have hz2 : Hid (iI.bytes = 48) := gz2
  clear giV gz0 gz1 gz2
  have HO : Hid (w.ownsRow B 50 5 (.slice a M.length cap) M.length (cellsI M)) := h
  clear h
  have ta0 := ta_con_bin k n t
  have ta1 := ta_con_una k n t
  have ta2 := ta_con_col k n t
  have ta3 := ta_con k n t
  have ta4 := fl_con k n t
  go_enter Try.func18, Try.ntmps18
  go_wp2_with (at_builtin; refine app_any _ rfl (.tmp 47) (.tmp 52) 26 rfl B 50 iI (.agg #[.int .i64 0, .int .i64 0, .int .i64 0, .int .i64 0, .string ⟨#[]⟩]) 5 48 Try.underlying26 hiI.out hz0.out hz1.out hz2.out rfl (by omega) (.slice a M.length cap) M.length (cellsI M) rfl (own_below HO.out (by repeat' (first | exact Below.refl _ _ | refine Below.alloc ?_ ?_ _ | (simp; done) | (simp; omega)))) _ 1 1 (cI (⟨1, 0, k, n, t⟩ : IN)) rfl (fun ex => by cases ex) rfl (news_at _ (⟨1, 0, k, n, t⟩ : IN) _ (by simp)) (oneI _) (by unfold maxLen; omega) (by omega) (by simp; omega) ?_; intro a2 c2 w5 ho5 hg5 hx5)
  have HO5 : Hid (w5.ownsRow B 50 5 (.slice a2 (M.length + 1) c2) (M.length + 1) (cellsI M ++ cI (⟨1, 0, k, n, t⟩ : IN))) := ho5
  rw [ob_slice] at hg5 hx5
  have HG5 : Hid (w.grownBy w5 (ob a)) := grown_pre (by repeat' (first | exact Below.refl _ _ | refine Below.alloc ?_ ?_ _ | (simp; done) | (simp; omega))) hg5
  have HX5 : Hid (∀ g, ob a2 = some g → ob a = some g ∨ w.heap.size ≤ g) := fun g hg => (hx5 g hg).imp id (fun q => by rw [q]; simp; omega)
  clear ho5 hg5 hx5
  go_ret
  have hlen : (M ++ [(⟨1, 0, k, n, t⟩ : IN)]).length = M.length + 1 := by simp
  exact ⟨a2, c2, by rw [hlen]; rfl, ⟨by rw [hlen, cellsI_append, cellsI_one]; exact HO5.out, HG5.out, HX5.out⟩⟩
set_option maxRecDepth 100000 in
set_option maxHeartbeats 4000000 in
theorem c_ac_col (c : Int) (M : List IN) (a : Option Addr) (cap B : Nat) (w : World) (h : w.ownsRow B 50 5 (.slice a M.length cap) M.length (cellsI M)) (hB : B ≤ w.heap.size) (hl : M.length ≤ 1000) :
    Calls Try.prog 18 #[.slice a M.length cap, .iface 76 (.agg #[.int .i64 c])] w fun e w' => APost w w' B a (M ++ [(⟨2, c, 0, 0, ⟨#[]⟩⟩ : IN)]) e := by
  obtain ⟨iI, giV, gz0, gz1, gz2⟩ := info_parts infoIns
  have hiI : Hid (Try.prog.info? 50 = some iI) := giV
  have hz0 : Hid (iI.zero = some (.agg #[.int .i64 0, .int .i64 0, .int .i64 0, .int .i64 0, .string ⟨#[]⟩])) := gz0
  have hz1 : Hid (iI.size = 5) := gz1
  have hz2 : Hid (iI.bytes = 48) := gz2
  clear giV gz0 gz1 gz2
  have HO : Hid (w.ownsRow B 50 5 (.slice a M.length cap) M.length (cellsI M)) := h
  clear h
  have ta0 := ta_col_bin c
  have ta1 := ta_col_una c
  have ta2 := ta_col_col c
  go_enter Try.func18, Try.ntmps18
  go_wp2_with (at_builtin; refine app_any _ rfl (.tmp 41) (.tmp 45) 26 rfl B 50 iI (.agg #[.int .i64 0, .int .i64 0, .int .i64 0, .int .i64 0, .string ⟨#[]⟩]) 5 48 Try.underlying26 hiI.out hz0.out hz1.out hz2.out rfl (by omega) (.slice a M.length cap) M.length (cellsI M) rfl (own_below HO.out (by repeat' (first | exact Below.refl _ _ | refine Below.alloc ?_ ?_ _ | (simp; done) | (simp; omega)))) _ 1 1 (cI (⟨2, c, 0, 0, ⟨#[]⟩⟩ : IN)) rfl (fun ex => by cases ex) rfl (news_at _ (⟨2, c, 0, 0, ⟨#[]⟩⟩ : IN) _ (by simp)) (oneI _) (by unfold maxLen; omega) (by omega) (by simp; omega) ?_; intro a2 c2 w5 ho5 hg5 hx5)
  have HO5 : Hid (w5.ownsRow B 50 5 (.slice a2 (M.length + 1) c2) (M.length + 1) (cellsI M ++ cI (⟨2, c, 0, 0, ⟨#[]⟩⟩ : IN))) := ho5
  rw [ob_slice] at hg5 hx5
  have HG5 : Hid (w.grownBy w5 (ob a)) := grown_pre (by repeat' (first | exact Below.refl _ _ | refine Below.alloc ?_ ?_ _ | (simp; done) | (simp; omega))) hg5
  have HX5 : Hid (∀ g, ob a2 = some g → ob a = some g ∨ w.heap.size ≤ g) := fun g hg => (hx5 g hg).imp id (fun q => by rw [q]; simp; omega)
  clear ho5 hg5 hx5
  go_ret
  have hlen : (M ++ [(⟨2, c, 0, 0, ⟨#[]⟩⟩ : IN)]).length = M.length + 1 := by simp
  exact ⟨a2, c2, by rw [hlen]; rfl, ⟨by rw [hlen, cellsI_append, cellsI_one]; exact HO5.out, HG5.out, HX5.out⟩⟩
theorem snocLen (M : List IN) (x : IN) : (M ++ [x]).length = M.length + 1 := by simp
theorem news_box {w : World} {g : Nat} (x : IN) (h : Box w g 50 #[.int .i64 x.o, .int .i64 x.p, .int .i64 x.k, .int .i64 x.n, .string x.t]) : ∀ ad, some (⟨g, 0, none⟩ : Addr) = some ad → ∀ j y, (cI x)[j]? = some y → w.cell? (ad.add j) = some y := by
  intro ad ea j y hj
  cases ea
  have hx := h.cell j
  rw [addr_add, Nat.zero_add, hx]
  simpa [cI] using hj
theorem app_fin {w1 v w5 : World} {B : Nat} {a1 a2 : Option Addr} {c2 : Nat} {M : List IN} {x : IN} (hb : Below w1.heap.size w1 v) (ho : w5.ownsRow B 50 5 (.slice a2 (M.length + 1) c2) (M.length + 1) (cellsI M ++ cI x)) (hg : v.grownBy w5 (ob a1)) (hx : ∀ g, ob a2 = some g → ob a1 = some g ∨ g = v.heap.size) : App w1 w5 B a1 a2 c2 (M ++ [x]) := by
  have hlen : (M ++ [x]).length = M.length + 1 := by simp
  refine ⟨by rw [hlen, cellsI_append, cellsI_one]; exact ho, grown_pre hb hg, fun g e => ?_⟩
  rcases hx g e with q | q
  · exact .inl q
  · exact .inr (by rw [q]; exact hb.size)
theorem box1c {w : World} {g : Nat} {t : TypeId} {v0 : Value} (h : Box w g t #[v0]) : w.cell? ⟨g, 0, none⟩ = some v0 := h.cell 0
theorem box2 {w : World} {g : Nat} {t : TypeId} {v0 v1 : Value} (h : Box w g t #[v0, v1]) : w.cell? ⟨g, 0, none⟩ = some v0 ∧ w.cell? ⟨g, 1, none⟩ = some v1 := ⟨h.cell 0, h.cell 1⟩
theorem box3p {w : World} {g : Nat} {t : TypeId} {v0 v1 v2 : Value} (h : Box w g t #[v0, v1, v2]) : w.cell? ⟨g, 0, none⟩ = some v0 ∧ w.cell? ⟨g, 1, none⟩ = some v1 ∧ w.cell? ⟨g, 2, none⟩ = some v2 := ⟨h.cell 0, h.cell 1, h.cell 2⟩
set_option maxRecDepth 100000 in
set_option maxHeartbeats 4000000 in
theorem c_ac_una (op : Int) (p : PT) (IH : Hid (∀ (M : List IN) (a : Option Addr) (cap B : Nat) (w : World), w.ownsRow B 50 5 (.slice a M.length cap) M.length (cellsI M) → B ≤ w.heap.size → M.length + 2 * p.cnt ≤ 1000 → Calls Try.prog 18 #[.slice a M.length cap, p.enc] w fun e w' => APost w w' B a (M ++ codeP p M.length) e)) (M : List IN) (a : Option Addr) (cap B : Nat) (w : World) (h : w.ownsRow B 50 5 (.slice a M.length cap) M.length (cellsI M)) (hB : B ≤ w.heap.size) (hl : M.length + 2 * p.cnt + 2 ≤ 1000) :
    Calls Try.prog 18 #[.slice a M.length cap, .iface 73 (.agg #[.int .i64 op, p.enc])] w fun e w' => APost w w' B a (M ++ codeP p M.length ++ [(⟨3, op, 0, 0, ⟨#[]⟩⟩ : IN)]) e := by
  obtain ⟨iI, giV, gz0, gz1, gz2⟩ := info_parts infoIns
  have hiI : Hid (Try.prog.info? 50 = some iI) := giV
  have hz0 : Hid (iI.zero = some (.agg #[.int .i64 0, .int .i64 0, .int .i64 0, .int .i64 0, .string ⟨#[]⟩])) := gz0
  have hz1 : Hid (iI.size = 5) := gz1
  have hz2 : Hid (iI.bytes = 48) := gz2
  clear giV gz0 gz1 gz2
  obtain ⟨T, pv, hpv⟩ := enc_if p
  rw [hpv] at IH ⊢
  clear hpv
  obtain ⟨V, hV⟩ : ∃ V, (w.alloc (.cells #[.int .i64 0, .nilIface, .nilIface] 69)).alloc (.cells #[.int .i64 op, .iface T pv] 73) = V := ⟨_, rfl⟩
  have bV : Below w.heap.size w V := by rw [← hV]; exact ((Below.refl _ _).alloc (Nat.le_refl _) _).alloc (by simp) _
  have UV : Hid (Box V (w.heap.size + 1) 73 #[.int .i64 op, .iface T pv]) := by unfold Hid; rw [← hV]; exact Box.new2 _ _ _ _
  have OW : Hid (V.ownsRow B 50 5 (.slice a M.length cap) M.length (cellsI M)) := own_below h bV
  have lBW : B ≤ V.heap.size := by have := bV.size; omega
  have HbV : Hid (Below w.heap.size w V) := bV
  have UVN : Hid (ob a ≠ some (w.heap.size + 1)) := fun e => by have := App.blk h _ e; omega
  have lV : w.heap.size + 1 < V.heap.size := UV.out.lt
  have hcl := code_len p M.length
  obtain ⟨q0, q1⟩ := box2 UV.out
  clear h bV
  have ta0 := ta_una_bin op (.iface T pv)
  have ta1 := ta_una_una op (.iface T pv)
  go_enter Try.func18, Try.ntmps18
  have CA := IH.out M a cap B V.drew (own_below OW.out (Below.refl _ _).drew) (show B ≤ V.drew.heap.size from lBW) (by omega)
  have bN : Below V.heap.size V (V.drew.alloc (.cells #[.int .i64 3, .int .i64 op, .int .i64 0, .int .i64 0, .string ⟨#[]⟩] 50)) := (Below.refl _ _).drew.alloc (Nat.le_refl _) _
  have CB := IH.out M a cap B (V.drew.alloc (.cells #[.int .i64 3, .int .i64 op, .int .i64 0, .int .i64 0, .string ⟨#[]⟩] 50)) (own_below OW.out bN) (by simp; omega) (by omega)
  have NB0 : Hid (Box (V.drew.alloc (.cells #[.int .i64 3, .int .i64 op, .int .i64 0, .int .i64 0, .string ⟨#[]⟩] 50)) V.heap.size 50 #[.int .i64 3, .int .i64 op, .int .i64 0, .int .i64 0, .string ⟨#[]⟩]) := Box.new V.drew #[.int .i64 3, .int .i64 op, .int .i64 0, .int .i64 0, .string ⟨#[]⟩] 50
  obtain ⟨M1, hM1⟩ : ∃ x, M ++ codeP p M.length = x := ⟨_, rfl⟩
  have hM1l : M1.length + 1 ≤ 1000 := by rw [← hM1, List.length_append]; have := code_len p M.length; omega
  rw [hM1] at CA CB
  have HM1 : Hid (M ++ codeP p M.length = M1) := hM1
  clear hM1
  have HBK : Hid (∀ g, ob a = some g → B ≤ g ∧ g < V.heap.size) := App.blk OW.out
  have NBn : Hid (ob a ≠ some V.heap.size) := fun e => by have := HBK.out _ e; omega
  have UVD : Hid (Box V.drew (w.heap.size + 1) 73 #[.int .i64 op, .iface T pv]) := UV.out
  have UVE : Hid (Box (V.drew.alloc (.cells #[.int .i64 3, .int .i64 op, .int .i64 0, .int .i64 0, .string ⟨#[]⟩] 50)) (w.heap.size + 1) 73 #[.int .i64 op, .iface T pv]) := UV.out.belowS bN
  have HbN : Hid (Below V.heap.size V (V.drew.alloc (.cells #[.int .i64 3, .int .i64 op, .int .i64 0, .int .i64 0, .string ⟨#[]⟩] 50))) := bN
  clear bN
  go_wp2_with fail
  go_region_law (first
     | (rw [if_pos (by simp [Region.wanted])]
        go_simp
        go_at_call 18
        first
        | (refine CA.mono ?_
           rintro e wq ⟨aq, cq, rfl, Aq⟩
           have UVK : Hid (Box wq (w.heap.size + 1) 73 #[.int .i64 op, .iface T pv]) := Aq.box UVD.out (by exact UVN.out)
           obtain ⟨q0_1, q1_1⟩ := box2 UVK.out
           have HAq : Hid (App V wq B a aq cq M1) := Aq.pre (Below.refl _ _).drew
           have sq : V.heap.size ≤ wq.heap.size := Aq.gr.size
           have Oq : Hid (wq.ownsRow B 50 5 (.slice aq M1.length cq) M1.length (cellsI M1)) := Aq.own
           clear Aq)
        | (refine CB.mono ?_
           rintro e wq ⟨aq, cq, rfl, Aq⟩
           have UVK : Hid (Box wq (w.heap.size + 1) 73 #[.int .i64 op, .iface T pv]) := Aq.box UVE.out (by exact UVN.out)
           obtain ⟨q0_1, q1_1⟩ := box2 UVK.out
           have NB1 : Hid (Box wq V.heap.size 50 #[.int .i64 3, .int .i64 op, .int .i64 0, .int .i64 0, .string ⟨#[]⟩]) := Aq.box NB0.out (by exact NBn.out)
           have HAq : Hid (App V wq B a aq cq M1) := Aq.pre HbN.out
           have sq : V.heap.size < wq.heap.size := NB1.out.lt
           have Oq : Hid (wq.ownsRow B 50 5 (.slice aq M1.length cq) M1.length (cellsI M1)) := Aq.own
           clear Aq)
        go_simp)
     | (refine step_app_any _ (by rfl) (.tmp 29) (.tmp 33) 26 (by rfl) B 50 iI (.agg #[.int .i64 0, .int .i64 0, .int .i64 0, .int .i64 0, .string ⟨#[]⟩]) 5 48 Try.underlying26 hiI.out hz0.out hz1.out hz2.out rfl (by omega) (.slice aq M1.length cq) M1.length (cellsI M1) (by rfl) (by first | exact Oq.out | exact own_below Oq.out ((Below.refl _ _).alloc (Nat.le_refl _) _)) _ 1 1 (cI (⟨3, op, 0, 0, ⟨#[]⟩⟩ : IN)) (by rfl) (fun ex => by cases ex) rfl (by first | exact news_box (⟨3, op, 0, 0, ⟨#[]⟩⟩ : IN) NB1.out | exact news_at _ (⟨3, op, 0, 0, ⟨#[]⟩⟩ : IN) _ rfl) (oneI _) (by unfold maxLen; omega) (by omega) (by first | (have := sq; omega) | (simp; omega)) ?_
        intro a2 c2 w5 ho5 hg5 hx5
        rw [ob_slice] at hg5 hx5
        have A5 : Hid (App V w5 B a a2 c2 (M1 ++ [(⟨3, op, 0, 0, ⟨#[]⟩⟩ : IN)])) := HAq.out.trans (app_fin (by first | exact Below.refl _ _ | exact (Below.refl _ _).alloc (Nat.le_refl _) _) ho5 hg5 hx5)
        clear ho5 hg5 hx5))
  all_goals
    go_wp2
    go_ret
    exact ⟨a2, c2, by rw [HM1.out, snocLen]; rfl, by rw [HM1.out]; exact A5.out.pre HbV.out⟩

end Go.Proofs.Ytepeaabacfjheaa
