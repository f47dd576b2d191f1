/-
  Copies of instructions and of their lists.
-/
import Derived.Test.YtcgcaomaofppiaaDoorCa
import Derived.Deep.RegionHeld3
namespace Go.Proofs.YtcgcaomaofppiaaDoor
open Go Go.RowKit
attribute [local go_sem ↓] Go.wp_at_zero Go.wp_at_succ

theorem box5 {w : World} {g : Nat} {t : TypeId} {v0 v1 v2 v3 v4 : Value} (h : Box w g t #[v0, v1, v2, v3, v4]) : w.cell? ⟨g, 0, none⟩ = some v0 ∧ w.cell? ⟨g, 1, none⟩ = some v1 ∧ w.cell? ⟨g, 2, none⟩ = some v2 ∧ w.cell? ⟨g, 3, none⟩ = some v3 ∧ w.cell? ⟨g, 4, none⟩ = some v4 := ⟨h.cell 0, h.cell 1, h.cell 2, h.cell 3, h.cell 4⟩
theorem put5_box {w : World} {g : Nat} {t : TypeId} {x0 x1 x2 x3 x4 : Value} (h : Box w g t #[x0, x1, x2, x3, x4]) (v0 v1 v2 v3 v4 : Value) : Box ((((((w).setCell ⟨g, 0, none⟩ (v0)).setCell ⟨g, 1, none⟩ (v1)).setCell ⟨g, 2, none⟩ (v2)).setCell ⟨g, 3, none⟩ (v3)).setCell ⟨g, 4, none⟩ (v4)) g t #[v0, v1, v2, v3, v4] := by
  have k := ((((h.set 0 v0).set 1 v1).set 2 v2).set 3 v3).set 4 v4
  simpa using k
theorem put5_below {a w : World} {g B : Nat} (h : Below B a w) (hg : B ≤ g) (v0 v1 v2 v3 v4 : Value) : Below B a ((((((w).setCell ⟨g, 0, none⟩ (v0)).setCell ⟨g, 1, none⟩ (v1)).setCell ⟨g, 2, none⟩ (v2)).setCell ⟨g, 3, none⟩ (v3)).setCell ⟨g, 4, none⟩ (v4)) := ((((h.setCell hg _).setCell hg _).setCell hg _).setCell hg _).setCell hg _
theorem loadVar5 {w : World} {r : Nat} {v0 v1 v2 v3 v4 : Value} (hb : Box w r 59 #[v0, v1, v2, v3, v4]) : (loadVar 59 ⟨r, 0, none⟩).run Tryd.prog w = .ok (.agg #[v0, v1, v2, v3, v4]) w := by
  obtain ⟨x0, x1, x2, x3, x4⟩ := box5 hb
  simp [go_sem, x0, x1, x2, x3, x4]
theorem ret5 {fn : Func} {p : Tmp} (h : fn.results = #[.cell p 59]) {R : Ending → World → Prop} {a : Act} {w : World} {r : Nat} {v0 v1 v2 v3 v4 : Value} (hp : a.tmps.getD p undef = .pointer (some ⟨r, 0, none⟩)) (hd : a.defers = []) (hb : Box w r 59 #[v0, v1, v2, v3, v4]) (hR : R (.returned (.agg #[v0, v1, v2, v3, v4])) w) : bodyPost Tryd.prog fn R .ret a w := by
  refine bodyPost_ret ?_ hd hR
  have hp' : a.tmps[p]?.getD undef = .pointer (some ⟨r, 0, none⟩) := by simpa using hp
  simp only [results, h]
  simp [hp', asAddr, loadVar5 hb]
set_option maxRecDepth 100000 in
set_option maxHeartbeats 4000000 in
theorem c_toI1 (o p k n : Int) (t : ByteArray) (w : World) : Calls Tryd.prog 25 #[.agg #[.int .i64 o, .int .i64 p, .int .i64 k, .int .i64 n, .string t]] w fun e w' => e = .returned (.agg #[.int .i64 o, .int .i64 p, .int .i64 k, .int .i64 n, .string t]) ∧ Below w.heap.size w w' := by
  go_enter Tryd.func25, Tryd.ntmps25
  go_wp2_with fail
  obtain ⟨V, hV⟩ : ∃ V, ((w.alloc (.cells #[.int .i64 o, .int .i64 p, .int .i64 k, .int .i64 n, .string t] 55)).alloc (.cells #[.int .i64 0, .int .i64 0, .int .i64 0, .int .i64 0, .string ⟨#[]⟩] 59)).alloc (.cells #[.int .i64 o, .int .i64 p, .int .i64 0, .int .i64 0, .string ⟨#[]⟩] 59) = V := ⟨_, rfl⟩
  rw [hV]
  have B0 : Below w.heap.size w V := by rw [← hV]; exact (((Below.refl _ _).alloc (Nat.le_refl _) _).alloc (by simp) _).alloc (by simp; omega) _
  have X0 : Box V (w.heap.size + 1) 59 #[.int .i64 0, .int .i64 0, .int .i64 0, .int .i64 0, .string ⟨#[]⟩] := by rw [← hV]; exact (Box.new2 _ _ _ _).alloc _
  have Y0 : Box V (w.heap.size + 1 + 1) 59 #[.int .i64 o, .int .i64 p, .int .i64 0, .int .i64 0, .string ⟨#[]⟩] := by rw [← hV]; have := Box.new2 (w.alloc (.cells #[.int .i64 o, .int .i64 p, .int .i64 k, .int .i64 n, .string t] 55)) (.cells #[.int .i64 0, .int .i64 0, .int .i64 0, .int .i64 0, .string ⟨#[]⟩] 59) #[.int .i64 o, .int .i64 p, .int .i64 0, .int .i64 0, .string ⟨#[]⟩] 59; simpa using this
  clear hV
  refine (c_to _ _ _ _).mono ?_
  rintro e w1 ⟨rfl, hb⟩
  have B1 : Hid (Below w.heap.size w w1) := B0.trans (hb.mono B0.size)
  have X1 : Hid (Box w1 (w.heap.size + 1) 59 #[.int .i64 0, .int .i64 0, .int .i64 0, .int .i64 0, .string ⟨#[]⟩]) := X0.belowS hb
  have Y1 := Y0.belowS hb
  clear hb B0 X0 Y0
  obtain ⟨x0, x1, x2, x3, x4⟩ := box5 X1.out
  obtain ⟨y0, y1, y2, y3, y4⟩ := box5 Y1
  have t0 := X1.out.thaw 0
  have t1 := X1.out.thaw 1
  have t2 := X1.out.thaw 2
  have t3 := X1.out.thaw 3
  have t4 := X1.out.thaw 4
  have s0 := Y1.thaw 0
  have s1 := Y1.thaw 1
  have s2 := Y1.thaw 2
  have s3 := Y1.thaw 3
  have s4 := Y1.thaw 4
  go_wp2
  refine ret5 Tryd.results25 rfl rfl (put5_box (((X1.out.setOther _ _ (by simp)).setOther _ _ (by simp)).setOther _ _ (by simp)) _ _ _ _ _) ⟨rfl, put5_below (((B1.out.setCell (by simp; omega) _).setCell (by simp; omega) _).setCell (by simp; omega) _) (by omega) _ _ _ _ _⟩
theorem made_zeroI (n : Nat) : (madeCells #[.int .i64 0, .int .i64 0, .int .i64 0, .int .i64 0, .string ⟨#[]⟩] (n * 5)).toList = cellsI (List.replicate n zeroI) := by
  apply List.ext_getElem?
  intro j
  by_cases hj : j < n * 5
  · have h1 : (madeCells #[.int .i64 0, .int .i64 0, .int .i64 0, .int .i64 0, .string ⟨#[]⟩] (n * 5)).toList[j]? = some ((#[.int .i64 0, .int .i64 0, .int .i64 0, .int .i64 0, .string ⟨#[]⟩] : Array Value)[j % 5]!) := by
      simp [madeCells, hj]
    rw [h1]
    have hi : j / 5 < (List.replicate n zeroI).length := by simp; omega
    have hd : (List.replicate n zeroI).getD (j / 5) zeroI = zeroI := by rw [List.getD_eq_getElem?_getD, List.getElem?_eq_getElem hi]; simp
    have c := cellsI_get (List.replicate n zeroI) (j / 5) hi (j % 5) (by omega)
    rw [hd, show j / 5 * 5 + j % 5 = j by omega] at c
    rw [c]
    have hm : j % 5 < 5 := by omega
    generalize j % 5 = m at hm
    match m, hm with
    | 0, _ => rfl
    | 1, _ => rfl
    | 2, _ => rfl
    | 3, _ => rfl
    | 4, _ => rfl
  · rw [List.getElem?_eq_none (by simp [size_madeCells]; omega), List.getElem?_eq_none (by rw [cellsI_len]; simp; omega)]
theorem infoI : (Tryd.prog.info? 59).map (fun i => (i.zero, i.size, i.bytes)) = some (some (.agg #[.int .i64 0, .int .i64 0, .int .i64 0, .int .i64 0, .string ⟨#[]⟩]), 5, 48) := by kernel_rfl
theorem own_putI {w : World} {base e g n cap : Nat} {vs : List IN} (h : w.ownsRow base e 5 (.slice (some ⟨g, 0, none⟩) n cap) n (cellsI vs)) (i : Nat) (v : IN) (hi : i < vs.length) :
    ((((((w).setCell ⟨g, i * 5, none⟩ (.int .i64 v.o)).setCell ⟨g, i * 5 + 1, none⟩ (.int .i64 v.p)).setCell ⟨g, i * 5 + 2, none⟩ (.int .i64 v.k)).setCell ⟨g, i * 5 + 3, none⟩ (.int .i64 v.n)).setCell ⟨g, i * 5 + 4, none⟩ (.string v.t)).ownsRow base e 5 (.slice (some ⟨g, 0, none⟩) n cap) n (cellsI (vs.set i v)) := by
  have h0 := (h.stored (i * 5) (.int .i64 v.o)).1
  have h1 := (h0.stored (i * 5 + 1) (.int .i64 v.p)).1
  have h2 := (h1.stored (i * 5 + 2) (.int .i64 v.k)).1
  have h3 := (h2.stored (i * 5 + 3) (.int .i64 v.n)).1
  have h4 := (h3.stored (i * 5 + 4) (.string v.t)).1
  have := cellsI_set vs i v hi
  unfold setI at this
  rw [this] at h4
  exact h4
set_option maxRecDepth 100000 in
set_option maxHeartbeats 8000000 in
theorem c_toI (a : Option Addr) (n cap : Nat) (vs : List IN) (w : World) (hr : RdI w a n vs) (hn : n ≤ 1048576) :
    Calls Tryd.prog 8 #[.slice a n cap] w fun e w' => e = .returned (.slice (some ⟨w.heap.size, 0, none⟩) n n) ∧ w'.ownsRow w.heap.size 59 5 (.slice (some ⟨w.heap.size, 0, none⟩) n n) n (cellsI vs) ∧ Below w.heap.size w w' := by
  obtain ⟨hl, hcs⟩ := hr
  obtain ⟨i0, hi, hz0, hz1, hz2⟩ := info_parts infoI
  go_enter Tryd.func8, Tryd.ntmps8
  go_wp2_with (at_make; refine wpList_make_full _ rfl (.tmp 6) (.tmp 6) 32 rfl w.heap.size 59 i0 (.agg #[.int .i64 0, .int .i64 0, .int .i64 0, .int .i64 0, .string ⟨#[]⟩]) 5 Tryd.underlying32 hi hz0 hz1 .i64 .i64 _ _ n rfl rfl rfl rfl (by rw [hz2]; omega) (by unfold maxLen; omega) (Nat.le_refl _) ?_; intro w1 hown hgrow)
  go_loopw [4] (fun i wr => ∃ k : Nat, k ≤ n ∧ i = .int .i64 k ∧ wr.ownsRow w.heap.size 59 5 (.slice (some ⟨w.heap.size, 0, none⟩) n n) n (cellsI (partA zeroI vs n k)) ∧ Below w.heap.size w wr) (fun i _ => n - (intOf i).toNat)
  case atStart => exact ⟨0, by omega, rfl, by have e := made_zeroI n; simp only [Value.cells] at hown; rw [e] at hown; simpa [partA] using hown, (Below.refl _ _).grown hgrow (Nat.le_refl _) (fun k h => by cases h)⟩
  case round =>
    obtain ⟨k, hk, rfl, hown, hb⟩ := hrel
    by_cases hlt : k < n
    · obtain ⟨b, off, rfl, hbl, hc⟩ := hcs (by omega)
      obtain ⟨⟨vo, vp, vk, vn, vt⟩, hv⟩ : ∃ v, v = vs.getD k zeroI := ⟨_, rfl⟩
      obtain ⟨d0, d1, d2, d3, d4⟩ := RdI.at hc hlt hv
      dsimp only at d0 d1 d2 d3 d4
      have e0 : wr.cell? ⟨b, off + k * 5, none⟩ = some (.int .i64 vo) := by rw [hb.cell (p := ⟨b, off + k * 5, none⟩) hbl, d0]
      have e1 : wr.cell? ⟨b, off + k * 5 + 1, none⟩ = some (.int .i64 vp) := by rw [hb.cell (p := ⟨b, off + k * 5 + 1, none⟩) hbl, d1]
      have e2 : wr.cell? ⟨b, off + k * 5 + 2, none⟩ = some (.int .i64 vk) := by rw [hb.cell (p := ⟨b, off + k * 5 + 2, none⟩) hbl, d2]
      have e3 : wr.cell? ⟨b, off + k * 5 + 3, none⟩ = some (.int .i64 vn) := by rw [hb.cell (p := ⟨b, off + k * 5 + 3, none⟩) hbl, d3]
      have e4 : wr.cell? ⟨b, off + k * 5 + 4, none⟩ = some (.string vt) := by rw [hb.cell (p := ⟨b, off + k * 5 + 4, none⟩) hbl, d4]
      have HV : Hid ((⟨vo, vp, vk, vn, vt⟩ : IN) = vs.getD k zeroI) := hv
      clear hc hcs hgrow hv d0 d1 d2 d3 d4
      have HO : Hid (wr.ownsRow w.heap.size 59 5 (.slice (some ⟨w.heap.size, 0, none⟩) n n) n (cellsI (partA zeroI vs n k))) := hown
      have HB : Hid (Below w.heap.size w wr) := hb
      clear hown hb
      go_wp2_with fail
      refine (c_toI1 _ _ _ _ _ _).mono ?_
      rintro e w1 ⟨rfl, hb1⟩
      have hown1 := own_below HO.out hb1
      have hbb : Below w.heap.size w w1 := HB.out.trans (hb1.mono HB.out.size)
      have hpl := partA_len zeroI vs n k hl hk
      obtain ⟨u0, f0⟩ : ∃ u, w1.cell? ⟨w.heap.size, k * 5, none⟩ = some u := ⟨_, (hown1.cellAt (k * 5) (by omega)).trans (List.getElem?_eq_getElem (by rw [cellsI_len]; omega))⟩
      have z0 := hown1.frozenAt (k * 5)
      obtain ⟨u1, f1⟩ : ∃ u, w1.cell? ⟨w.heap.size, k * 5 + 1, none⟩ = some u := ⟨_, (hown1.cellAt (k * 5 + 1) (by omega)).trans (List.getElem?_eq_getElem (by rw [cellsI_len]; omega))⟩
      have z1 := hown1.frozenAt (k * 5 + 1)
      obtain ⟨u2, f2⟩ : ∃ u, w1.cell? ⟨w.heap.size, k * 5 + 2, none⟩ = some u := ⟨_, (hown1.cellAt (k * 5 + 2) (by omega)).trans (List.getElem?_eq_getElem (by rw [cellsI_len]; omega))⟩
      have z2 := hown1.frozenAt (k * 5 + 2)
      obtain ⟨u3, f3⟩ : ∃ u, w1.cell? ⟨w.heap.size, k * 5 + 3, none⟩ = some u := ⟨_, (hown1.cellAt (k * 5 + 3) (by omega)).trans (List.getElem?_eq_getElem (by rw [cellsI_len]; omega))⟩
      have z3 := hown1.frozenAt (k * 5 + 3)
      obtain ⟨u4, f4⟩ : ∃ u, w1.cell? ⟨w.heap.size, k * 5 + 4, none⟩ = some u := ⟨_, (hown1.cellAt (k * 5 + 4) (by omega)).trans (List.getElem?_eq_getElem (by rw [cellsI_len]; omega))⟩
      have z4 := hown1.frozenAt (k * 5 + 4)
      have hput := own_putI hown1 k ⟨vo, vp, vk, vn, vt⟩ (by omega)
      rw [show (partA zeroI vs n k).set k (⟨vo, vp, vk, vn, vt⟩ : IN) = partA zeroI vs n (k + 1) by rw [HV.out]; exact partA_step zeroI vs n k hl hlt] at hput
      dsimp only at hput
      have HP : Hid (_) := hput
      have BB : Hid (Below w.heap.size w ((((((w1).setCell ⟨w.heap.size, k * 5, none⟩ (.int .i64 vo)).setCell ⟨w.heap.size, k * 5 + 1, none⟩ (.int .i64 vp)).setCell ⟨w.heap.size, k * 5 + 2, none⟩ (.int .i64 vk)).setCell ⟨w.heap.size, k * 5 + 3, none⟩ (.int .i64 vn)).setCell ⟨w.heap.size, k * 5 + 4, none⟩ (.string vt))) := (((((hbb.setCell (Nat.le_refl _) _).setCell (Nat.le_refl _) _).setCell (Nat.le_refl _) _).setCell (Nat.le_refl _) _).setCell (Nat.le_refl _) _)
      clear hput hown1 hb1 HO HB hbb e0 e1 e2 e3 e4
      go_wp2
      go_roundw
      case rel => exact ⟨k + 1, by omega, by go_num, HP.out, BB.out⟩
      case measure => simp [intOf]; omega
    · have e : k = n := by omega
      subst e
      rw [partA_full _ _ k hl] at hown
      go_wp2
      go_ret
      exact ⟨rfl, hown, hb⟩

end Go.Proofs.YtcgcaomaofppiaaDoor
