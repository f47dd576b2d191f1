/-
  What page bytes say: the walk of the program's pageOf.
-/
import Derived.Test.YtcokbogicbdoaaaDoorZzah
namespace Go.Proofs.YtcokbogicbdoaaaDoor.G
open Go Go.RowKit
attribute [local go_sem ↓] Go.wp_at_zero Go.wp_at_succ


theorem own_zero (w : World) (B E : Nat) (h : E ≤ w.heap.size) : OwnG w B E ⟨0, none, 0, 0⟩ ⟨0, []⟩ := ⟨rfl, World.ownsRow_nil _ _ _ _, h, fun g e => by cases e⟩
def rpP (o : Option DG) : DG := o.getD ⟨0, []⟩
set_option maxRecDepth 100000 in
set_option maxHeartbeats 4000000 in
theorem c_pageOf (no : Int) (b off m : Nat) (x : List Int) (w : World) (hr : RdV w (some ⟨b, off, none⟩) m (x.map (Value.int .u8))) (hz : ∀ z ∈ x, 0 ≤ z ∧ z < 256) (hm : m ≤ 65536) :
    Calls Tryd.prog 74 #[.int .i64 no, .slice (some ⟨b, off, none⟩) m m] w fun e w' => (∃ h' : HG, e = .returned (.tuple #[.agg #[.int .i64 h'.l, .slice h'.a h'.n h'.c], .bool (rpD no x).isSome]) ∧ OwnG w' w.heap.size w'.heap.size h' (rpP (rpD no x))) ∧ Below w.heap.size w w' := by
  have hl : x.length = m := by simpa using hr.1
  obtain ⟨V, hV⟩ : ∃ V, w.alloc (.cells #[.int .i64 0, .slice none 0 0] 49) = V := ⟨_, rfl⟩
  have HB : Hid (Below w.heap.size w V) := by unfold Hid; rw [← hV]; exact (Below.refl _ _).alloc (Nat.le_refl _) _
  have BR : Hid (Box V w.heap.size 49 #[.int .i64 0, .slice none 0 0]) := by unfold Hid; rw [← hV]; exact Box.new _ _ _
  have l0 := BR.out.lt
  obtain ⟨u0, u1⟩ := box2 BR.out
  have t0 := BR.out.thaw 0
  have t1 := BR.out.thaw 1
  by_cases h4 : m < 4
  · have E : Hid (rpD no x = none) := rp_lo (by omega)
    clear hr hz
    go_enter Tryd.func74, Tryd.ntmps74
    go_wp2
    refine retG2 Tryd.results74 rfl rfl rfl (put2_box BR.out _ _) ⟨?_, put2_below HB.out (Nat.le_refl _) _ _⟩
    rw [E.out]
    exact ⟨⟨0, none, 0, 0⟩, rfl, own_zero _ _ _ (Nat.le_refl _)⟩
  have HZ : Hid (∀ z ∈ x, 0 ≤ z ∧ z < 256) := hz
  have HR : Hid (RdV w (some ⟨b, off, none⟩) m (x.map (Value.int .u8))) := hr
  have hb0 : ∀ i, i < m → 0 ≤ x.getD i 0 ∧ x.getD i 0 < 256 := fun i hi => by
    rw [List.getD_eq_getElem?_getD, List.getElem?_eq_getElem (by omega)]; exact hz _ (List.getElem_mem _)
  obtain ⟨b', off', e, hbl, hc⟩ := (hr.below HB.out).2 (by omega)
  cases e
  have HXL : Hid (x.length = m) := hl
  obtain ⟨x0, hx0⟩ : ∃ y, y = x.getD 0 0 := ⟨_, rfl⟩
  obtain ⟨x1, hx1⟩ : ∃ y, y = x.getD 1 0 := ⟨_, rfl⟩
  obtain ⟨x2, hx2⟩ : ∃ y, y = x.getD 2 0 := ⟨_, rfl⟩
  obtain ⟨x3, hx3⟩ : ∃ y, y = x.getD 3 0 := ⟨_, rfl⟩
  have d0 : V.cell? ⟨b, off, none⟩ = some (.int .u8 x0) := by have := hc 0 (by omega); rw [Nat.add_zero] at this; rw [this, hx0]; exact map_get _ _ _ _ (by omega)
  have d1 : V.cell? ⟨b, off + 1, none⟩ = some (.int .u8 x1) := by rw [hc 1 (by omega), hx1]; exact map_get _ _ _ _ (by omega)
  have d2 : V.cell? ⟨b, off + 2, none⟩ = some (.int .u8 x2) := by rw [hc 2 (by omega), hx2]; exact map_get _ _ _ _ (by omega)
  have d3 : V.cell? ⟨b, off + 3, none⟩ = some (.int .u8 x3) := by rw [hc 3 (by omega), hx3]; exact map_get _ _ _ _ (by omega)
  have r1 : 0 ≤ x1 ∧ x1 < 256 := by rw [hx1]; exact hb0 1 (by omega)
  have r2 : 0 ≤ x2 ∧ x2 < 256 := by rw [hx2]; exact hb0 2 (by omega)
  have r3 : 0 ≤ x3 ∧ x3 < 256 := by rw [hx3]; exact hb0 3 (by omega)
  have HX : Hid (x.getD 0 0 = x0 ∧ x.getD 1 0 = x1 ∧ lsnZ x = x2 * 256 + x3) := ⟨hx0.symm, hx1.symm, by unfold lsnZ; rw [hx2, hx3]⟩
  have em := fun W => eqMark W x0 x1 112 no
  clear hr hz hc hb0 hx0 hx1 hx2 hx3 hl
  go_enter Tryd.func74, Tryd.ntmps74
  go_wp2_with fail
  go_region
  obtain ⟨V1, hV1⟩ : ∃ W, (V.alloc (.cells #[.int .u8 x0, .int .i64 x1] 135)).drew = W := ⟨_, rfl⟩
  have hbv : Below V.heap.size V V1 := by rw [← hV1]; exact ((Below.refl _ _).alloc (Nat.le_refl _) _).drew
  have B1 : Hid (Below w.heap.size w V1) := HB.out.trans (hbv.mono HB.out.size)
  have BR1 : Hid (Box V1 w.heap.size 49 #[.int .i64 0, .slice none 0 0]) := BR.out.belowS hbv
  have BM : Hid (Box V1 V.heap.size 135 #[.int .u8 x0, .int .i64 x1]) := by unfold Hid; rw [← hV1]; exact Box.new V _ _
  have e2 := (hbv.cell (p := ⟨b, off + 2, none⟩) (by have := HB.out.size; omega)).trans d2
  have e3 := (hbv.cell (p := ⟨b, off + 3, none⟩) (by have := HB.out.size; omega)).trans d3
  rw [hV1]
  clear hV hV1 HB BR d0 d1 d2 d3 u0 u1 t0 t1 hbv
  obtain ⟨y0, y1⟩ := box2 BM.out
  obtain ⟨u0, u1⟩ := box2 BR1.out
  have t0 := BR1.out.thaw 0
  have t1 := BR1.out.thaw 1
  by_cases hmk : x0 = 112 ∧ x1 = no
  case neg =>
    have E : Hid (rpD no x = none) := rp_mark (by rw [HX.out.1, HX.out.2.1]; exact hmk)
    have em' : ∀ W : World, (Op.equalIn 10000 135 (.agg #[.int .u8 x0, .int .i64 x1]) (.agg #[.int .u8 112, .int .i64 no])).run Tryd.prog W = .ok false W := fun W => by
      rw [em W]
      have : (x0 == 112 && x1 == no) = false := by
        rw [Bool.eq_false_iff]; intro e; simp only [Bool.and_eq_true, beq_iff_eq] at e; exact hmk e
      rw [this]
    clear em hmk
    go_wp2
    refine retG2 Tryd.results74 rfl rfl rfl (put2_box BR1.out _ _) ⟨?_, put2_below B1.out (Nat.le_refl _) _ _⟩
    rw [E.out]
    exact ⟨⟨0, none, 0, 0⟩, rfl, own_zero _ _ _ (Nat.le_refl _)⟩
  have HM : Hid (x.getD 0 0 = 112 ∧ x.getD 1 0 = no) := by unfold Hid; rw [HX.out.1, HX.out.2.1]; exact hmk
  have em' : ∀ W : World, (Op.equalIn 10000 135 (.agg #[.int .u8 x0, .int .i64 x1]) (.agg #[.int .u8 112, .int .i64 no])).run Tryd.prog W = .ok true W := fun W => by
    rw [em W, hmk.1, hmk.2]; simp
  clear em hmk
  obtain ⟨k, rfl⟩ : ∃ k, m = k + 4 := ⟨m - 4, by omega⟩
  have hdl : (x.drop 4).length = k := by have := HXL.out; simp; omega
  have RF : Hid (∀ (A : Addr), (k = 0 ∨ A = ⟨b, off + 4, none⟩) → Calls Tryd.prog 84 #[.slice (some A) k k] V1 (AnsR V1 (x.drop 4))) := fun A hA => by
    refine c_implR (some A) k k (x.drop 4) V1 ?_ (fun z h => HZ.out z (List.mem_of_mem_drop h)) (by omega) (Nat.le_refl _) (by unfold maxLen; omega)
    rcases hA with rfl | rfl
    · have : x.drop 4 = [] := List.eq_nil_of_length_eq_zero hdl
      rw [this]; exact ⟨rfl, fun h => absurd h (by omega)⟩
    · have := (HR.out.below B1.out).cut 4 k (by omega)
      rwa [List.take_of_length_le (by omega)] at this
  have OR := okR_of (zs := x.drop 4) (by omega)
  have RW : Hid (errR (x.drop 4) = 0 → (resR (x.drop 4)).length ≤ 100 ∧ ∀ s ∈ resR (x.drop 4), s.size ≤ 255) := fun h => (read_write (fun z h => HZ.out z (List.mem_of_mem_drop h)) h).2.2
  obtain ⟨ST, hST⟩ : ∃ l, l = resR (x.drop 4) := ⟨_, rfl⟩
  rw [← hST] at RW
  obtain ⟨EC, hEC⟩ : ∃ c, c = errR (x.drop 4) := ⟨_, rfl⟩
  rw [← hEC] at RW
  rw [← hST, ← hEC] at OR
  have HOR : Hid ((EC = 0 ∧ okR (x.drop 4) = some ST) ∨ EC = 3 ∧ okR (x.drop 4) = none ∧ ST = []) := OR
  have key : ∀ w2 a2 c2, Hid (w2.ownsRow V1.heap.size 9 1 (.slice a2 ST.length c2) ST.length (ST.map Value.string)) → Hid (Below V1.heap.size V1 w2) → True := fun _ _ _ _ _ => trivial
  have HST : Hid (ST = resR (x.drop 4)) := hST
  have HEC : Hid (EC = errR (x.drop 4)) := hEC
  clear OR hdl key hST hEC
  have q01 : w.heap.size < V1.heap.size := BR1.out.lt
  rcases Nat.eq_zero_or_pos k with rfl | hk
  · go_wp2_with fail
    refine (RF.out ⟨b, off, none⟩ (by simp)).mono ?_
    rintro e w2 ⟨a2, c2, rfl, o2, hb⟩
    rw [← HST.out] at o2
    rw [← HST.out, ← HEC.out]
    have B2 : Hid (Below w.heap.size w w2) := B1.out.trans (hb.mono B1.out.size)
    have BR2 : Hid (Box w2 w.heap.size 49 #[.int .i64 0, .slice none 0 0]) := BR1.out.belowS hb
    have O2 : Hid (w2.ownsRow V1.heap.size 9 1 (.slice a2 ST.length c2) ST.length (ST.map Value.string)) := o2
    have f2 : w2.cell? ⟨b, off + 2, none⟩ = some (.int .u8 x2) := far6 hb e2
    have f3 : w2.cell? ⟨b, off + 3, none⟩ = some (.int .u8 x3) := far6 hb e3
    have q12 : V1.heap.size ≤ w2.heap.size := hb.size
    have hbl2 : b < w2.heap.size := World.block_lt_of_cell? w2 ⟨b, off + 2, none⟩ f2
    clear hb o2 e2 e3 y0 y1 u0 u1 t0 t1 em' RF
    go_wp2_with fail
    go_region
    obtain ⟨V3, hV3⟩ : ∃ W, (w2.alloc (.cells #[.int .i64 (x2 * 256 + x3), .slice a2 ST.length c2] 49)).drew = W := ⟨_, rfl⟩
    have hbv : Below w2.heap.size w2 V3 := by rw [← hV3]; exact ((Below.refl _ _).alloc (Nat.le_refl _) _).drew
    have B3 : Hid (Below w.heap.size w V3) := B2.out.trans (hbv.mono B2.out.size)
    have BR3 : Hid (Box V3 w.heap.size 49 #[.int .i64 0, .slice none 0 0]) := BR2.out.belowS hbv
    have BP3 : Hid (Box V3 w2.heap.size 49 #[.int .i64 (x2 * 256 + x3), .slice a2 ST.length c2]) := by unfold Hid; rw [← hV3]; exact Box.new w2 _ _
    have O3 : Hid (OwnG V3 V1.heap.size w2.heap.size ⟨x2 * 256 + x3, a2, ST.length, c2⟩ ⟨x2 * 256 + x3, ST⟩) := ⟨rfl, own_below O2.out hbv, hbv.size, fun g e => O2.out.lt g (by rw [ob_slice]; exact e)⟩
    rw [hV3]
    clear hV3 hbv B2 BR2 O2 f2 f3 hbl2
    obtain ⟨p0, p1⟩ := box2 BP3.out
    obtain ⟨u0, u1⟩ := box2 BR3.out
    have t0 := BR3.out.thaw 0
    have t1 := BR3.out.thaw 1
    rcases HOR.out with ⟨h0, hS⟩ | ⟨h3, hN, _⟩
    case inr =>
      have E : Hid (rpD no x = none) := rp_form hN
      rw [h3]
      clear HOR RW h3 hN
      go_wp2
      refine retG2 Tryd.results74 rfl rfl rfl (put2_box BR3.out _ _) ⟨?_, put2_below B3.out (Nat.le_refl _) _ _⟩
      rw [E.out]
      exact ⟨⟨0, none, 0, 0⟩, rfl, own_zero _ _ _ (Nat.le_refl _)⟩
    have HS : Hid (okR (x.drop 4) = some ST) := hS
    have hfit := RW.out h0
    have FT : Hid (FitG ⟨x2 * 256 + x3, ST⟩) := ⟨by have := hfit.1; show ST.length ≤ 1048576; omega, fun s h => by have := hfit.2 s h; omega⟩
    rw [h0]
    clear HOR RW h0 hS hfit
    go_wp2_with fail
    refine (c_implOK ⟨x2 * 256 + x3, a2, ST.length, c2⟩ ⟨x2 * 256 + x3, ST⟩ V3 O3.out.rd FT.out).mono ?_
    rintro e w4 ⟨rfl, hb⟩
    have B4 : Hid (Below w.heap.size w w4) := B3.out.trans (hb.mono B3.out.size)
    have BR4 : Hid (Box w4 w.heap.size 49 #[.int .i64 0, .slice none 0 0]) := BR3.out.belowS hb
    have BP4 : Hid (Box w4 w2.heap.size 49 #[.int .i64 (x2 * 256 + x3), .slice a2 ST.length c2]) := BP3.out.belowS hb
    have O4 : Hid (OwnG w4 V1.heap.size w2.heap.size ⟨x2 * 256 + x3, a2, ST.length, c2⟩ ⟨x2 * 256 + x3, ST⟩) := O3.out.below hb
    clear hb B3 BR3 BP3 O3 p0 p1 u0 u1 t0 t1
    obtain ⟨p0, p1⟩ := box2 BP4.out
    obtain ⟨u0, u1⟩ := box2 BR4.out
    have t0 := BR4.out.thaw 0
    have t1 := BR4.out.thaw 1
    cases hg : okG ⟨x2 * 256 + x3, ST⟩
    · have E : Hid (rpD no x = none) := rp_bad HS.out (by rw [HX.out.2.2]; exact hg)
      clear hg
      go_wp2
      refine retG2 Tryd.results74 rfl rfl rfl (put2_box BR4.out _ _) ⟨?_, put2_below B4.out (Nat.le_refl _) _ _⟩
      rw [E.out]
      exact ⟨⟨0, none, 0, 0⟩, rfl, own_zero _ _ _ (Nat.le_refl _)⟩
    · have E : Hid (rpD no x = some ⟨x2 * 256 + x3, ST⟩) := by unfold Hid; rw [← HX.out.2.2]; exact rp_yes (by have := HXL.out; omega) HM.out HS.out (by rw [HX.out.2.2]; exact hg)
      clear hg
      go_wp2
      refine retG2 Tryd.results74 rfl rfl rfl (put2_box BR4.out _ _) ⟨?_, put2_below B4.out (Nat.le_refl _) _ _⟩
      rw [E.out]
      have := O4.out.put2 (r := w.heap.size) (.inl (by omega)) (.int .i64 (x2 * 256 + x3)) (.slice a2 ST.length c2)
      exact ⟨⟨x2 * 256 + x3, a2, ST.length, c2⟩, rfl, this.wide (B' := w.heap.size) (by omega)⟩
  · go_wp2_with fail
    refine (RF.out ⟨b, off + 4, none⟩ (by simp)).mono ?_
    rintro e w2 ⟨a2, c2, rfl, o2, hb⟩
    rw [← HST.out] at o2
    rw [← HST.out, ← HEC.out]
    have B2 : Hid (Below w.heap.size w w2) := B1.out.trans (hb.mono B1.out.size)
    have BR2 : Hid (Box w2 w.heap.size 49 #[.int .i64 0, .slice none 0 0]) := BR1.out.belowS hb
    have O2 : Hid (w2.ownsRow V1.heap.size 9 1 (.slice a2 ST.length c2) ST.length (ST.map Value.string)) := o2
    have f2 : w2.cell? ⟨b, off + 2, none⟩ = some (.int .u8 x2) := far6 hb e2
    have f3 : w2.cell? ⟨b, off + 3, none⟩ = some (.int .u8 x3) := far6 hb e3
    have q12 : V1.heap.size ≤ w2.heap.size := hb.size
    have hbl2 : b < w2.heap.size := World.block_lt_of_cell? w2 ⟨b, off + 2, none⟩ f2
    clear hb o2 e2 e3 y0 y1 u0 u1 t0 t1 em' RF
    go_wp2_with fail
    go_region
    obtain ⟨V3, hV3⟩ : ∃ W, (w2.alloc (.cells #[.int .i64 (x2 * 256 + x3), .slice a2 ST.length c2] 49)).drew = W := ⟨_, rfl⟩
    have hbv : Below w2.heap.size w2 V3 := by rw [← hV3]; exact ((Below.refl _ _).alloc (Nat.le_refl _) _).drew
    have B3 : Hid (Below w.heap.size w V3) := B2.out.trans (hbv.mono B2.out.size)
    have BR3 : Hid (Box V3 w.heap.size 49 #[.int .i64 0, .slice none 0 0]) := BR2.out.belowS hbv
    have BP3 : Hid (Box V3 w2.heap.size 49 #[.int .i64 (x2 * 256 + x3), .slice a2 ST.length c2]) := by unfold Hid; rw [← hV3]; exact Box.new w2 _ _
    have O3 : Hid (OwnG V3 V1.heap.size w2.heap.size ⟨x2 * 256 + x3, a2, ST.length, c2⟩ ⟨x2 * 256 + x3, ST⟩) := ⟨rfl, own_below O2.out hbv, hbv.size, fun g e => O2.out.lt g (by rw [ob_slice]; exact e)⟩
    rw [hV3]
    clear hV3 hbv B2 BR2 O2 f2 f3 hbl2
    obtain ⟨p0, p1⟩ := box2 BP3.out
    obtain ⟨u0, u1⟩ := box2 BR3.out
    have t0 := BR3.out.thaw 0
    have t1 := BR3.out.thaw 1
    rcases HOR.out with ⟨h0, hS⟩ | ⟨h3, hN, _⟩
    case inr =>
      have E : Hid (rpD no x = none) := rp_form hN
      rw [h3]
      clear HOR RW h3 hN
      go_wp2
      refine retG2 Tryd.results74 rfl rfl rfl (put2_box BR3.out _ _) ⟨?_, put2_below B3.out (Nat.le_refl _) _ _⟩
      rw [E.out]
      exact ⟨⟨0, none, 0, 0⟩, rfl, own_zero _ _ _ (Nat.le_refl _)⟩
    have HS : Hid (okR (x.drop 4) = some ST) := hS
    have hfit := RW.out h0
    have FT : Hid (FitG ⟨x2 * 256 + x3, ST⟩) := ⟨by have := hfit.1; show ST.length ≤ 1048576; omega, fun s h => by have := hfit.2 s h; omega⟩
    rw [h0]
    clear HOR RW h0 hS hfit
    go_wp2_with fail
    refine (c_implOK ⟨x2 * 256 + x3, a2, ST.length, c2⟩ ⟨x2 * 256 + x3, ST⟩ V3 O3.out.rd FT.out).mono ?_
    rintro e w4 ⟨rfl, hb⟩
    have B4 : Hid (Below w.heap.size w w4) := B3.out.trans (hb.mono B3.out.size)
    have BR4 : Hid (Box w4 w.heap.size 49 #[.int .i64 0, .slice none 0 0]) := BR3.out.belowS hb
    have BP4 : Hid (Box w4 w2.heap.size 49 #[.int .i64 (x2 * 256 + x3), .slice a2 ST.length c2]) := BP3.out.belowS hb
    have O4 : Hid (OwnG w4 V1.heap.size w2.heap.size ⟨x2 * 256 + x3, a2, ST.length, c2⟩ ⟨x2 * 256 + x3, ST⟩) := O3.out.below hb
    clear hb B3 BR3 BP3 O3 p0 p1 u0 u1 t0 t1
    obtain ⟨p0, p1⟩ := box2 BP4.out
    obtain ⟨u0, u1⟩ := box2 BR4.out
    have t0 := BR4.out.thaw 0
    have t1 := BR4.out.thaw 1
    cases hg : okG ⟨x2 * 256 + x3, ST⟩
    · have E : Hid (rpD no x = none) := rp_bad HS.out (by rw [HX.out.2.2]; exact hg)
      clear hg
      go_wp2
      refine retG2 Tryd.results74 rfl rfl rfl (put2_box BR4.out _ _) ⟨?_, put2_below B4.out (Nat.le_refl _) _ _⟩
      rw [E.out]
      exact ⟨⟨0, none, 0, 0⟩, rfl, own_zero _ _ _ (Nat.le_refl _)⟩
    · have E : Hid (rpD no x = some ⟨x2 * 256 + x3, ST⟩) := by unfold Hid; rw [← HX.out.2.2]; exact rp_yes (by have := HXL.out; omega) HM.out HS.out (by rw [HX.out.2.2]; exact hg)
      clear hg
      go_wp2
      refine retG2 Tryd.results74 rfl rfl rfl (put2_box BR4.out _ _) ⟨?_, put2_below B4.out (Nat.le_refl _) _ _⟩
      rw [E.out]
      have := O4.out.put2 (r := w.heap.size) (.inl (by omega)) (.int .i64 (x2 * 256 + x3)) (.slice a2 ST.length c2)
      exact ⟨⟨x2 * 256 + x3, a2, ST.length, c2⟩, rfl, this.wide (B' := w.heap.size) (by omega)⟩

end Go.Proofs.YtcokbogicbdoaaaDoor.G
