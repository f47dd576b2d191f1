/-
  Copies of nodes and of expressions.
-/
import Derived.Test.YtknjglgellhchaaDoorXa
import Derived.Deep.RegionHeld3
namespace Go.Proofs.YtknjglgellhchaaDoor
open Go Go.RowKit
attribute [local go_sem ↓] Go.wp_at_zero Go.wp_at_succ

theorem box7 {w : World} {g : Nat} {t : TypeId} {v0 v1 v2 v3 v4 v5 v6 : Value} (h : Box w g t #[v0, v1, v2, v3, v4, v5, v6]) : w.cell? ⟨g, 0, none⟩ = some v0 ∧ w.cell? ⟨g, 1, none⟩ = some v1 ∧ w.cell? ⟨g, 2, none⟩ = some v2 ∧ w.cell? ⟨g, 3, none⟩ = some v3 ∧ w.cell? ⟨g, 4, none⟩ = some v4 ∧ w.cell? ⟨g, 5, none⟩ = some v5 ∧ w.cell? ⟨g, 6, none⟩ = some v6 := ⟨h.cell 0, h.cell 1, h.cell 2, h.cell 3, h.cell 4, h.cell 5, h.cell 6⟩
theorem put7_box {w : World} {g : Nat} {t : TypeId} {x0 x1 x2 x3 x4 x5 x6 : Value} (h : Box w g t #[x0, x1, x2, x3, x4, x5, x6]) (v0 v1 v2 v3 v4 v5 v6 : Value) : Box ((((((((w).setCell ⟨g, 0, none⟩ (v0)).setCell ⟨g, 1, none⟩ (v1)).setCell ⟨g, 2, none⟩ (v2)).setCell ⟨g, 3, none⟩ (v3)).setCell ⟨g, 4, none⟩ (v4)).setCell ⟨g, 5, none⟩ (v5)).setCell ⟨g, 6, none⟩ (v6)) g t #[v0, v1, v2, v3, v4, v5, v6] := by
  have k := ((((((h.set 0 v0).set 1 v1).set 2 v2).set 3 v3).set 4 v4).set 5 v5).set 6 v6
  simpa using k
theorem put7_below {a w : World} {g B : Nat} (h : Below B a w) (hg : B ≤ g) (v0 v1 v2 v3 v4 v5 v6 : Value) : Below B a ((((((((w).setCell ⟨g, 0, none⟩ (v0)).setCell ⟨g, 1, none⟩ (v1)).setCell ⟨g, 2, none⟩ (v2)).setCell ⟨g, 3, none⟩ (v3)).setCell ⟨g, 4, none⟩ (v4)).setCell ⟨g, 5, none⟩ (v5)).setCell ⟨g, 6, none⟩ (v6)) := ((((((h.setCell hg _).setCell hg _).setCell hg _).setCell hg _).setCell hg _).setCell hg _).setCell hg _
theorem loadVar7 {w : World} {r : Nat} {v0 v1 v2 v3 v4 v5 v6 : Value} (hb : Box w r 101 #[v0, v1, v2, v3, v4, v5, v6]) : (loadVar 101 ⟨r, 0, none⟩).run Tryd.prog w = .ok (.agg #[v0, v1, v2, v3, v4, v5, v6]) w := by
  obtain ⟨x0, x1, x2, x3, x4, x5, x6⟩ := box7 hb
  simp [go_sem, x0, x1, x2, x3, x4, x5, x6]
theorem ret7 {fn : Func} {p : Tmp} (h : fn.results = #[.cell p 101]) {R : Ending → World → Prop} {a : Act} {w : World} {r : Nat} {v0 v1 v2 v3 v4 v5 v6 : Value} (hp : a.tmps.getD p undef = .pointer (some ⟨r, 0, none⟩)) (hd : a.defers = []) (hb : Box w r 101 #[v0, v1, v2, v3, v4, v5, v6]) (hR : R (.returned (.agg #[v0, v1, v2, v3, v4, v5, v6])) w) : bodyPost Tryd.prog fn R .ret a w := by
  refine bodyPost_ret ?_ hd hR
  have hp' : a.tmps[p]?.getD undef = .pointer (some ⟨r, 0, none⟩) := by simpa using hp
  simp only [results, h]
  simp [hp', asAddr, loadVar7 hb]
set_option maxRecDepth 100000 in
set_option maxHeartbeats 4000000 in
theorem c_toE1 (o a b c k n : Int) (t : ByteArray) (w : World) : Calls Tryd.prog 63 #[.agg #[.int .i64 o, .int .i64 a, .int .i64 b, .int .i64 c, .int .i64 k, .int .i64 n, .string t]] w fun e w' => e = .returned (.agg #[.int .i64 o, .int .i64 a, .int .i64 b, .int .i64 c, .int .i64 k, .int .i64 n, .string t]) ∧ Below w.heap.size w w' := by
  go_enter Tryd.func63, Tryd.ntmps63
  go_wp2_with fail
  obtain ⟨V, hV⟩ : ∃ V, ((w.alloc (.cells #[.int .i64 o, .int .i64 a, .int .i64 b, .int .i64 c, .int .i64 k, .int .i64 n, .string t] 97)).alloc (.cells #[.int .i64 0, .int .i64 0, .int .i64 0, .int .i64 0, .int .i64 0, .int .i64 0, .string ⟨#[]⟩] 101)).alloc (.cells #[.int .i64 o, .int .i64 a, .int .i64 b, .int .i64 c, .int .i64 0, .int .i64 0, .string ⟨#[]⟩] 101) = V := ⟨_, rfl⟩
  rw [hV]
  have B0 : Below w.heap.size w V := by rw [← hV]; exact (((Below.refl _ _).alloc (Nat.le_refl _) _).alloc (by simp) _).alloc (by simp; omega) _
  have X0 : Box V (w.heap.size + 1) 101 #[.int .i64 0, .int .i64 0, .int .i64 0, .int .i64 0, .int .i64 0, .int .i64 0, .string ⟨#[]⟩] := by rw [← hV]; exact (Box.new2 _ _ _ _).alloc _
  have Y0 : Box V (w.heap.size + 1 + 1) 101 #[.int .i64 o, .int .i64 a, .int .i64 b, .int .i64 c, .int .i64 0, .int .i64 0, .string ⟨#[]⟩] := by rw [← hV]; have := Box.new2 (w.alloc (.cells #[.int .i64 o, .int .i64 a, .int .i64 b, .int .i64 c, .int .i64 k, .int .i64 n, .string t] 97)) (.cells #[.int .i64 0, .int .i64 0, .int .i64 0, .int .i64 0, .int .i64 0, .int .i64 0, .string ⟨#[]⟩] 101) #[.int .i64 o, .int .i64 a, .int .i64 b, .int .i64 c, .int .i64 0, .int .i64 0, .string ⟨#[]⟩] 101; simpa using this
  clear hV
  refine (c_to _ _ _ _).mono ?_
  rintro e w1 ⟨rfl, hb⟩
  have B1 : Hid (Below w.heap.size w w1) := B0.trans (hb.mono B0.size)
  have X1 : Hid (Box w1 (w.heap.size + 1) 101 #[.int .i64 0, .int .i64 0, .int .i64 0, .int .i64 0, .int .i64 0, .int .i64 0, .string ⟨#[]⟩]) := X0.belowS hb
  have Y1 := Y0.belowS hb
  clear hb B0 X0 Y0
  obtain ⟨x0, x1, x2, x3, x4, x5, x6⟩ := box7 X1.out
  obtain ⟨y0, y1, y2, y3, y4, y5, y6⟩ := box7 Y1
  have t0 := X1.out.thaw 0
  have t1 := X1.out.thaw 1
  have t2 := X1.out.thaw 2
  have t3 := X1.out.thaw 3
  have t4 := X1.out.thaw 4
  have t5 := X1.out.thaw 5
  have t6 := X1.out.thaw 6
  have s0 := Y1.thaw 0
  have s1 := Y1.thaw 1
  have s2 := Y1.thaw 2
  have s3 := Y1.thaw 3
  have s4 := Y1.thaw 4
  have s5 := Y1.thaw 5
  have s6 := Y1.thaw 6
  go_wp2
  refine ret7 Tryd.results63 rfl rfl (put7_box (((X1.out.setOther _ _ (by simp)).setOther _ _ (by simp)).setOther _ _ (by simp)) _ _ _ _ _ _ _) ⟨rfl, put7_below (((B1.out.setCell (by simp; omega) _).setCell (by simp; omega) _).setCell (by simp; omega) _) (by omega) _ _ _ _ _ _ _⟩
theorem made_zeroE (n : Nat) : (madeCells #[.int .i64 0, .int .i64 0, .int .i64 0, .int .i64 0, .int .i64 0, .int .i64 0, .string ⟨#[]⟩] (n * 7)).toList = cellsE (List.replicate n zeroE) := by
  apply List.ext_getElem?
  intro j
  by_cases hj : j < n * 7
  · have h1 : (madeCells #[.int .i64 0, .int .i64 0, .int .i64 0, .int .i64 0, .int .i64 0, .int .i64 0, .string ⟨#[]⟩] (n * 7)).toList[j]? = some ((#[.int .i64 0, .int .i64 0, .int .i64 0, .int .i64 0, .int .i64 0, .int .i64 0, .string ⟨#[]⟩] : Array Value)[j % 7]!) := by
      simp [madeCells, hj]
    rw [h1]
    have hi : j / 7 < (List.replicate n zeroE).length := by simp; omega
    have hd : (List.replicate n zeroE).getD (j / 7) zeroE = zeroE := by rw [List.getD_eq_getElem?_getD, List.getElem?_eq_getElem hi]; simp
    have c := cellsE_get (List.replicate n zeroE) (j / 7) hi (j % 7) (by omega)
    rw [hd, show j / 7 * 7 + j % 7 = j by omega] at c
    rw [c]
    have hm : j % 7 < 7 := by omega
    generalize j % 7 = m at hm
    match m, hm with
    | 0, _ => rfl
    | 1, _ => rfl
    | 2, _ => rfl
    | 3, _ => rfl
    | 4, _ => rfl
    | 5, _ => rfl
    | 6, _ => rfl
  · rw [List.getElem?_eq_none (by simp [size_madeCells]; omega), List.getElem?_eq_none (by rw [cellsE_len]; simp; omega)]
theorem infoE : (Tryd.prog.info? 101).map (fun i => (i.zero, i.size, i.bytes)) = some (some (.agg #[.int .i64 0, .int .i64 0, .int .i64 0, .int .i64 0, .int .i64 0, .int .i64 0, .string ⟨#[]⟩]), 7, 64) := by kernel_rfl
theorem own_putE {w : World} {base e g n cap : Nat} {vs : List EN} (h : w.ownsRow base e 7 (.slice (some ⟨g, 0, none⟩) n cap) n (cellsE vs)) (i : Nat) (v : EN) (hi : i < vs.length) :
    ((((((((w).setCell ⟨g, i * 7, none⟩ (.int .i64 v.o)).setCell ⟨g, i * 7 + 1, none⟩ (.int .i64 v.a)).setCell ⟨g, i * 7 + 2, none⟩ (.int .i64 v.b)).setCell ⟨g, i * 7 + 3, none⟩ (.int .i64 v.c)).setCell ⟨g, i * 7 + 4, none⟩ (.int .i64 v.k)).setCell ⟨g, i * 7 + 5, none⟩ (.int .i64 v.n)).setCell ⟨g, i * 7 + 6, none⟩ (.string v.t)).ownsRow base e 7 (.slice (some ⟨g, 0, none⟩) n cap) n (cellsE (vs.set i v)) := by
  have h0 := (h.stored (i * 7) (.int .i64 v.o)).1
  have h1 := (h0.stored (i * 7 + 1) (.int .i64 v.a)).1
  have h2 := (h1.stored (i * 7 + 2) (.int .i64 v.b)).1
  have h3 := (h2.stored (i * 7 + 3) (.int .i64 v.c)).1
  have h4 := (h3.stored (i * 7 + 4) (.int .i64 v.k)).1
  have h5 := (h4.stored (i * 7 + 5) (.int .i64 v.n)).1
  have h6 := (h5.stored (i * 7 + 6) (.string v.t)).1
  have := cellsE_set vs i v hi
  unfold setE at this
  rw [this] at h6
  exact h6
set_option maxRecDepth 100000 in
set_option maxHeartbeats 8000000 in
theorem c_toE (a : Option Addr) (n cap : Nat) (vs : List EN) (w : World) (hr : RdE w a n vs) (hn : n ≤ 1048576) :
    Calls Tryd.prog 30 #[.slice a n cap] w fun e w' => e = .returned (.slice (some ⟨w.heap.size, 0, none⟩) n n) ∧ w'.ownsRow w.heap.size 101 7 (.slice (some ⟨w.heap.size, 0, none⟩) n n) n (cellsE vs) ∧ Below w.heap.size w w' := by
  obtain ⟨hl, hcs⟩ := hr
  obtain ⟨i0, hi, hz0, hz1, hz2⟩ := info_parts infoE
  go_enter Tryd.func30, Tryd.ntmps30
  go_wp2_with (at_make; refine wpList_make_full _ rfl (.tmp 6) (.tmp 6) 28 rfl w.heap.size 101 i0 (.agg #[.int .i64 0, .int .i64 0, .int .i64 0, .int .i64 0, .int .i64 0, .int .i64 0, .string ⟨#[]⟩]) 7 Tryd.underlying28 hi hz0 hz1 .i64 .i64 _ _ n rfl rfl rfl rfl (by rw [hz2]; omega) (by unfold maxLen; omega) (Nat.le_refl _) ?_; intro w1 hown hgrow)
  go_loopw [4] (fun i wr => ∃ k : Nat, k ≤ n ∧ i = .int .i64 k ∧ wr.ownsRow w.heap.size 101 7 (.slice (some ⟨w.heap.size, 0, none⟩) n n) n (cellsE (partA zeroE vs n k)) ∧ Below w.heap.size w wr) (fun i _ => n - (intOf i).toNat)
  case atStart => exact ⟨0, by omega, rfl, by have e := made_zeroE n; simp only [Value.cells] at hown; rw [e] at hown; simpa [partA] using hown, (Below.refl _ _).grown hgrow (Nat.le_refl _) (fun k h => by cases h)⟩
  case round =>
    obtain ⟨k, hk, rfl, hown, hb⟩ := hrel
    by_cases hlt : k < n
    · obtain ⟨b, off, rfl, hbl, hc⟩ := hcs (by omega)
      obtain ⟨⟨vo, va, vb, vc, vk, vn, vt⟩, hv⟩ : ∃ v, v = vs.getD k zeroE := ⟨_, rfl⟩
      obtain ⟨d0, d1, d2, d3, d4, d5, d6⟩ := RdE.at hc hlt hv
      dsimp only at d0 d1 d2 d3 d4 d5 d6
      have e0 : wr.cell? ⟨b, off + k * 7, none⟩ = some (.int .i64 vo) := by rw [hb.cell (p := ⟨b, off + k * 7, none⟩) hbl, d0]
      have e1 : wr.cell? ⟨b, off + k * 7 + 1, none⟩ = some (.int .i64 va) := by rw [hb.cell (p := ⟨b, off + k * 7 + 1, none⟩) hbl, d1]
      have e2 : wr.cell? ⟨b, off + k * 7 + 2, none⟩ = some (.int .i64 vb) := by rw [hb.cell (p := ⟨b, off + k * 7 + 2, none⟩) hbl, d2]
      have e3 : wr.cell? ⟨b, off + k * 7 + 3, none⟩ = some (.int .i64 vc) := by rw [hb.cell (p := ⟨b, off + k * 7 + 3, none⟩) hbl, d3]
      have e4 : wr.cell? ⟨b, off + k * 7 + 4, none⟩ = some (.int .i64 vk) := by rw [hb.cell (p := ⟨b, off + k * 7 + 4, none⟩) hbl, d4]
      have e5 : wr.cell? ⟨b, off + k * 7 + 5, none⟩ = some (.int .i64 vn) := by rw [hb.cell (p := ⟨b, off + k * 7 + 5, none⟩) hbl, d5]
      have e6 : wr.cell? ⟨b, off + k * 7 + 6, none⟩ = some (.string vt) := by rw [hb.cell (p := ⟨b, off + k * 7 + 6, none⟩) hbl, d6]
      have HV : Hid ((⟨vo, va, vb, vc, vk, vn, vt⟩ : EN) = vs.getD k zeroE) := hv
      clear hc hcs hgrow hv d0 d1 d2 d3 d4 d5 d6
      have HO : Hid (wr.ownsRow w.heap.size 101 7 (.slice (some ⟨w.heap.size, 0, none⟩) n n) n (cellsE (partA zeroE vs n k))) := hown
      have HB : Hid (Below w.heap.size w wr) := hb
      clear hown hb
      go_wp2_with fail
      refine (c_toE1 _ _ _ _ _ _ _ _).mono ?_
      rintro e w1 ⟨rfl, hb1⟩
      have hown1 := own_below HO.out hb1
      have hbb : Below w.heap.size w w1 := HB.out.trans (hb1.mono HB.out.size)
      have hpl := partA_len zeroE vs n k hl hk
      obtain ⟨u0, f0⟩ : ∃ u, w1.cell? ⟨w.heap.size, k * 7, none⟩ = some u := ⟨_, (hown1.cellAt (k * 7) (by omega)).trans (List.getElem?_eq_getElem (by rw [cellsE_len]; omega))⟩
      have z0 := hown1.frozenAt (k * 7)
      obtain ⟨u1, f1⟩ : ∃ u, w1.cell? ⟨w.heap.size, k * 7 + 1, none⟩ = some u := ⟨_, (hown1.cellAt (k * 7 + 1) (by omega)).trans (List.getElem?_eq_getElem (by rw [cellsE_len]; omega))⟩
      have z1 := hown1.frozenAt (k * 7 + 1)
      obtain ⟨u2, f2⟩ : ∃ u, w1.cell? ⟨w.heap.size, k * 7 + 2, none⟩ = some u := ⟨_, (hown1.cellAt (k * 7 + 2) (by omega)).trans (List.getElem?_eq_getElem (by rw [cellsE_len]; omega))⟩
      have z2 := hown1.frozenAt (k * 7 + 2)
      obtain ⟨u3, f3⟩ : ∃ u, w1.cell? ⟨w.heap.size, k * 7 + 3, none⟩ = some u := ⟨_, (hown1.cellAt (k * 7 + 3) (by omega)).trans (List.getElem?_eq_getElem (by rw [cellsE_len]; omega))⟩
      have z3 := hown1.frozenAt (k * 7 + 3)
      obtain ⟨u4, f4⟩ : ∃ u, w1.cell? ⟨w.heap.size, k * 7 + 4, none⟩ = some u := ⟨_, (hown1.cellAt (k * 7 + 4) (by omega)).trans (List.getElem?_eq_getElem (by rw [cellsE_len]; omega))⟩
      have z4 := hown1.frozenAt (k * 7 + 4)
      obtain ⟨u5, f5⟩ : ∃ u, w1.cell? ⟨w.heap.size, k * 7 + 5, none⟩ = some u := ⟨_, (hown1.cellAt (k * 7 + 5) (by omega)).trans (List.getElem?_eq_getElem (by rw [cellsE_len]; omega))⟩
      have z5 := hown1.frozenAt (k * 7 + 5)
      obtain ⟨u6, f6⟩ : ∃ u, w1.cell? ⟨w.heap.size, k * 7 + 6, none⟩ = some u := ⟨_, (hown1.cellAt (k * 7 + 6) (by omega)).trans (List.getElem?_eq_getElem (by rw [cellsE_len]; omega))⟩
      have z6 := hown1.frozenAt (k * 7 + 6)
      have hput := own_putE hown1 k ⟨vo, va, vb, vc, vk, vn, vt⟩ (by omega)
      rw [show (partA zeroE vs n k).set k (⟨vo, va, vb, vc, vk, vn, vt⟩ : EN) = partA zeroE vs n (k + 1) by rw [HV.out]; exact partA_step zeroE vs n k hl hlt] at hput
      dsimp only at hput
      have HP : Hid (_) := hput
      have BB : Hid (Below w.heap.size w ((((((((w1).setCell ⟨w.heap.size, k * 7, none⟩ (.int .i64 vo)).setCell ⟨w.heap.size, k * 7 + 1, none⟩ (.int .i64 va)).setCell ⟨w.heap.size, k * 7 + 2, none⟩ (.int .i64 vb)).setCell ⟨w.heap.size, k * 7 + 3, none⟩ (.int .i64 vc)).setCell ⟨w.heap.size, k * 7 + 4, none⟩ (.int .i64 vk)).setCell ⟨w.heap.size, k * 7 + 5, none⟩ (.int .i64 vn)).setCell ⟨w.heap.size, k * 7 + 6, none⟩ (.string vt))) := (((((((hbb.setCell (Nat.le_refl _) _).setCell (Nat.le_refl _) _).setCell (Nat.le_refl _) _).setCell (Nat.le_refl _) _).setCell (Nat.le_refl _) _).setCell (Nat.le_refl _) _).setCell (Nat.le_refl _) _)
      clear hput hown1 hb1 HO HB hbb e0 e1 e2 e3 e4 e5 e6
      go_wp2
      go_roundw
      case rel => exact ⟨k + 1, by omega, by go_num, HP.out, BB.out⟩
      case measure => simp [intOf]; omega
    · have e : k = n := by omega
      subst e
      rw [partA_full _ _ k hl] at hown
      go_wp2
      go_ret
      exact ⟨rfl, hown, hb⟩

end Go.Proofs.YtknjglgellhchaaDoor
