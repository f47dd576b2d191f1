/-
  Headers: the walk of the specification's HeaderBytes.
-/
import Derived.Test.YtfibdpfhfgnbiaaGreatDoorZzae
import Derived.Test.YtfibdpfhfgnbiaaGreatDoorZzag
import Derived.Laws.StructEq
import Derived.Test.YtfibdpfhfgnbiaaGreatDoorZzai
import Derived.Test.YtfibdpfhfgnbiaaGreatDoorZzac
namespace Go.Proofs.YtfibdpfhfgnbiaaGreatDoor.G
open Go Go.RowKit
attribute [local go_sem ↓] Go.wp_at_zero Go.wp_at_succ


def lsnZ (x : List Int) : Int := x.getD 2 0 * 256 + x.getD 3 0
def rpD (no : Int) (x : List Int) : Option DG :=
  if x.length < 4 then none else if x.getD 0 0 = 112 ∧ x.getD 1 0 = no then (match okR (x.drop 4) with
    | none => none
    | some l => if okG ⟨lsnZ x, l⟩ then some ⟨lsnZ x, l⟩ else none) else none
theorem rp_lo {no : Int} {x : List Int} (h : x.length < 4) : rpD no x = none := by unfold rpD; rw [if_pos h]
theorem rp_mark {no : Int} {x : List Int} (h : ¬ (x.getD 0 0 = 112 ∧ x.getD 1 0 = no)) : rpD no x = none := by unfold rpD; rw [if_neg h]; split <;> rfl
theorem rp_form {no : Int} {x : List Int} (h : okR (x.drop 4) = none) : rpD no x = none := by unfold rpD; rw [h]; split; rfl; split <;> rfl
theorem rp_bad {no : Int} {x : List Int} {l : List ByteArray} (h : okR (x.drop 4) = some l) (h1 : okG ⟨lsnZ x, l⟩ = false) : rpD no x = none := by
  unfold rpD; rw [h]; simp only [h1]; split; rfl; split <;> rfl
theorem rp_yes {no : Int} {x : List Int} {l : List ByteArray} (h0 : ¬ x.length < 4) (hm : x.getD 0 0 = 112 ∧ x.getD 1 0 = no) (h : okR (x.drop 4) = some l) (h1 : okG ⟨lsnZ x, l⟩ = true) : rpD no x = some ⟨lsnZ x, l⟩ := by
  unfold rpD; rw [if_neg h0, if_pos hm, h]; simp only [h1, if_true]
theorem okR_of {zs : List Int} (hl : ¬ 65536 < zs.length) : (errR zs = 0 ∧ okR zs = some (resR zs)) ∨ (errR zs = 3 ∧ okR zs = none ∧ resR zs = []) := by
  cases ho : okR zs with
  | none => exact .inr ⟨(ansR3 hl ho).1, rfl, (ansR3 hl ho).2⟩
  | some l => exact .inl ⟨(ansR0 hl ho).1, by rw [(ansR0 hl ho).2]⟩
theorem eqMark (W : World) (x0 x1 y0 y1 : Int) : (Op.equalIn 10000 373 (.agg #[.int .u8 x0, .int .i64 x1]) (.agg #[.int .u8 y0, .int .i64 y1])).run Tryz.prog W = .ok (x0 == y0 && x1 == y1) W := by
  rw [run_equalIn_agg W 9999 373 _ _ (by kernel_rfl) (by kernel_rfl)]
  have hf : (Tryz.prog.fieldsOf 373).toList.map (fun f => (f.name, f.type, f.offset)) = [("letter", 5, 0), ("no", 3, 1)] := by kernel_rfl
  generalize (Tryz.prog.fieldsOf 373).toList = fs at hf
  have hl : fs.length = 2 := by simpa using congrArg List.length hf
  obtain ⟨f0, f1, rfl⟩ : ∃ f0 f1, fs = [f0, f1] := by
    rcases fs with _ | ⟨f0, _ | ⟨f1, _ | ⟨f2, r⟩⟩⟩
    · simp at hl
    · simp at hl
    · exact ⟨f0, f1, rfl⟩
    · simp at hl
  simp only [List.map_cons, List.map_nil, List.cons.injEq, Prod.mk.injEq, and_true] at hf
  obtain ⟨⟨n0, e0, o0⟩, n1, e1, o1⟩ := hf
  cases h0 : (x0 == y0) <;> cases h1 : (x1 == y1)
  all_goals simp [Op.eqFields, part, go_sem, n0, e0, o0, n1, e1, o1, h0, h1]

end Go.Proofs.YtfibdpfhfgnbiaaGreatDoor.G
namespace Go.Proofs.YtfibdpfhfgnbiaaGreatDoor.G
open Go Go.RowKit
attribute [local go_sem ↓] Go.wp_at_zero Go.wp_at_succ


theorem own_zero (w : World) (B E : Nat) (h : E ≤ w.heap.size) : OwnG w B E ⟨0, none, 0, 0⟩ ⟨0, []⟩ := ⟨rfl, World.ownsRow_nil _ _ _ _, h, fun g e => by cases e⟩
def rpP (o : Option DG) : DG := o.getD ⟨0, []⟩
set_option maxRecDepth 100000 in
set_option maxHeartbeats 4000000 in
theorem c_pageOf (no : Int) (b off m : Nat) (x : List Int) (w : World) (hr : RdV w (some ⟨b, off, none⟩) m (x.map (Value.int .u8))) (hz : ∀ z ∈ x, 0 ≤ z ∧ z < 256) (hm : m ≤ 65536) :
    Calls Tryz.prog 301 #[.int .i64 no, .slice (some ⟨b, off, none⟩) m m] w fun e w' => (∃ h' : HG, e = .returned (.tuple #[.agg #[.int .i64 h'.l, .slice h'.a h'.n h'.c], .bool (rpD no x).isSome]) ∧ OwnG w' w.heap.size w'.heap.size h' (rpP (rpD no x))) ∧ Below w.heap.size w w' := by
  have hl : x.length = m := by simpa using hr.1
  obtain ⟨V, hV⟩ : ∃ V, w.alloc (.cells #[.int .i64 0, .slice none 0 0] 140) = V := ⟨_, rfl⟩
  have HB : Hid (Below w.heap.size w V) := by unfold Hid; rw [← hV]; exact (Below.refl _ _).alloc (Nat.le_refl _) _
  have BR : Hid (Box V w.heap.size 140 #[.int .i64 0, .slice none 0 0]) := by unfold Hid; rw [← hV]; exact Box.new _ _ _
  have l0 := BR.out.lt
  obtain ⟨u0, u1⟩ := box2 BR.out
  have t0 := BR.out.thaw 0
  have t1 := BR.out.thaw 1
  by_cases h4 : m < 4
  · have E : Hid (rpD no x = none) := rp_lo (by omega)
    clear hr hz
    go_enter Tryz.func301, Tryz.ntmps301
    go_wp2
    refine retG2 Tryz.results301 rfl rfl rfl (put2_box BR.out _ _) ⟨?_, put2_below HB.out (Nat.le_refl _) _ _⟩
    rw [E.out]
    exact ⟨⟨0, none, 0, 0⟩, rfl, own_zero _ _ _ (Nat.le_refl _)⟩
  have HZ : Hid (∀ z ∈ x, 0 ≤ z ∧ z < 256) := hz
  have HR : Hid (RdV w (some ⟨b, off, none⟩) m (x.map (Value.int .u8))) := hr
  have hb0 : ∀ i, i < m → 0 ≤ x.getD i 0 ∧ x.getD i 0 < 256 := fun i hi => by
    rw [List.getD_eq_getElem?_getD, List.getElem?_eq_getElem (by omega)]; exact hz _ (List.getElem_mem _)
  obtain ⟨b', off', e, hbl, hc⟩ := (hr.below HB.out).2 (by omega)
  cases e
  have HXL : Hid (x.length = m) := hl
  obtain ⟨x0, hx0⟩ : ∃ y, y = x.getD 0 0 := ⟨_, rfl⟩
  obtain ⟨x1, hx1⟩ : ∃ y, y = x.getD 1 0 := ⟨_, rfl⟩
  obtain ⟨x2, hx2⟩ : ∃ y, y = x.getD 2 0 := ⟨_, rfl⟩
  obtain ⟨x3, hx3⟩ : ∃ y, y = x.getD 3 0 := ⟨_, rfl⟩
  have d0 : V.cell? ⟨b, off, none⟩ = some (.int .u8 x0) := by have := hc 0 (by omega); rw [Nat.add_zero] at this; rw [this, hx0]; exact map_get _ _ _ _ (by omega)
  have d1 : V.cell? ⟨b, off + 1, none⟩ = some (.int .u8 x1) := by rw [hc 1 (by omega), hx1]; exact map_get _ _ _ _ (by omega)
  have d2 : V.cell? ⟨b, off + 2, none⟩ = some (.int .u8 x2) := by rw [hc 2 (by omega), hx2]; exact map_get _ _ _ _ (by omega)
  have d3 : V.cell? ⟨b, off + 3, none⟩ = some (.int .u8 x3) := by rw [hc 3 (by omega), hx3]; exact map_get _ _ _ _ (by omega)
  have r1 : 0 ≤ x1 ∧ x1 < 256 := by rw [hx1]; exact hb0 1 (by omega)
  have r2 : 0 ≤ x2 ∧ x2 < 256 := by rw [hx2]; exact hb0 2 (by omega)
  have r3 : 0 ≤ x3 ∧ x3 < 256 := by rw [hx3]; exact hb0 3 (by omega)
  have HX : Hid (x.getD 0 0 = x0 ∧ x.getD 1 0 = x1 ∧ lsnZ x = x2 * 256 + x3) := ⟨hx0.symm, hx1.symm, by unfold lsnZ; rw [hx2, hx3]⟩
  have em := fun W => eqMark W x0 x1 112 no
  clear hr hz hc hb0 hx0 hx1 hx2 hx3 hl
  go_enter Tryz.func301, Tryz.ntmps301
  go_wp2_with fail
  go_region
  obtain ⟨V1, hV1⟩ : ∃ W, (V.alloc (.cells #[.int .u8 x0, .int .i64 x1] 373)).drew = W := ⟨_, rfl⟩
  have hbv : Below V.heap.size V V1 := by rw [← hV1]; exact ((Below.refl _ _).alloc (Nat.le_refl _) _).drew
  have B1 : Hid (Below w.heap.size w V1) := HB.out.trans (hbv.mono HB.out.size)
  have BR1 : Hid (Box V1 w.heap.size 140 #[.int .i64 0, .slice none 0 0]) := BR.out.belowS hbv
  have BM : Hid (Box V1 V.heap.size 373 #[.int .u8 x0, .int .i64 x1]) := by unfold Hid; rw [← hV1]; exact Box.new V _ _
  have e2 := (hbv.cell (p := ⟨b, off + 2, none⟩) (by have := HB.out.size; omega)).trans d2
  have e3 := (hbv.cell (p := ⟨b, off + 3, none⟩) (by have := HB.out.size; omega)).trans d3
  rw [hV1]
  clear hV hV1 HB BR d0 d1 d2 d3 u0 u1 t0 t1 hbv
  obtain ⟨y0, y1⟩ := box2 BM.out
  obtain ⟨u0, u1⟩ := box2 BR1.out
  have t0 := BR1.out.thaw 0
  have t1 := BR1.out.thaw 1
  by_cases hmk : x0 = 112 ∧ x1 = no
  case neg =>
    have E : Hid (rpD no x = none) := rp_mark (by rw [HX.out.1, HX.out.2.1]; exact hmk)
    have em' : ∀ W : World, (Op.equalIn 10000 373 (.agg #[.int .u8 x0, .int .i64 x1]) (.agg #[.int .u8 112, .int .i64 no])).run Tryz.prog W = .ok false W := fun W => by
      rw [em W]
      have : (x0 == 112 && x1 == no) = false := by
        rw [Bool.eq_false_iff]; intro e; simp only [Bool.and_eq_true, beq_iff_eq] at e; exact hmk e
      rw [this]
    clear em hmk
    go_wp2
    refine retG2 Tryz.results301 rfl rfl rfl (put2_box BR1.out _ _) ⟨?_, put2_below B1.out (Nat.le_refl _) _ _⟩
    rw [E.out]
    exact ⟨⟨0, none, 0, 0⟩, rfl, own_zero _ _ _ (Nat.le_refl _)⟩
  have HM : Hid (x.getD 0 0 = 112 ∧ x.getD 1 0 = no) := by unfold Hid; rw [HX.out.1, HX.out.2.1]; exact hmk
  have em' : ∀ W : World, (Op.equalIn 10000 373 (.agg #[.int .u8 x0, .int .i64 x1]) (.agg #[.int .u8 112, .int .i64 no])).run Tryz.prog W = .ok true W := fun W => by
    rw [em W, hmk.1, hmk.2]; simp
  clear em hmk
  obtain ⟨k, rfl⟩ : ∃ k, m = k + 4 := ⟨m - 4, by omega⟩
  have hdl : (x.drop 4).length = k := by have := HXL.out; simp; omega
  have RF : Hid (∀ (A : Addr), (k = 0 ∨ A = ⟨b, off + 4, none⟩) → Calls Tryz.prog 304 #[.slice (some A) k k] V1 (AnsR V1 (x.drop 4))) := fun A hA => by
    refine c_implR (some A) k k (x.drop 4) V1 ?_ (fun z h => HZ.out z (List.mem_of_mem_drop h)) (by omega) (Nat.le_refl _) (by unfold maxLen; omega)
    rcases hA with rfl | rfl
    · have : x.drop 4 = [] := List.eq_nil_of_length_eq_zero hdl
      rw [this]; exact ⟨rfl, fun h => absurd h (by omega)⟩
    · have := (HR.out.below B1.out).cut 4 k (by omega)
      rwa [List.take_of_length_le (by omega)] at this
  have OR := okR_of (zs := x.drop 4) (by omega)
  have RW : Hid (errR (x.drop 4) = 0 → (resR (x.drop 4)).length ≤ 100 ∧ ∀ s ∈ resR (x.drop 4), s.size ≤ 255) := fun h => (read_write (fun z h => HZ.out z (List.mem_of_mem_drop h)) h).2.2
  obtain ⟨ST, hST⟩ : ∃ l, l = resR (x.drop 4) := ⟨_, rfl⟩
  rw [← hST] at RW
  obtain ⟨EC, hEC⟩ : ∃ c, c = errR (x.drop 4) := ⟨_, rfl⟩
  rw [← hEC] at RW
  rw [← hST, ← hEC] at OR
  have HOR : Hid ((EC = 0 ∧ okR (x.drop 4) = some ST) ∨ EC = 3 ∧ okR (x.drop 4) = none ∧ ST = []) := OR
  have key : ∀ w2 a2 c2, Hid (w2.ownsRow V1.heap.size 9 1 (.slice a2 ST.length c2) ST.length (ST.map Value.string)) → Hid (Below V1.heap.size V1 w2) → True := fun _ _ _ _ _ => trivial
  have HST : Hid (ST = resR (x.drop 4)) := hST
  have HEC : Hid (EC = errR (x.drop 4)) := hEC
  clear OR hdl key hST hEC
  have q01 : w.heap.size < V1.heap.size := BR1.out.lt
  rcases Nat.eq_zero_or_pos k with rfl | hk
  · go_wp2_with fail
    refine (RF.out ⟨b, off, none⟩ (by simp)).mono ?_
    rintro e w2 ⟨a2, c2, rfl, o2, hb⟩
    rw [← HST.out] at o2
    rw [← HST.out, ← HEC.out]
    have B2 : Hid (Below w.heap.size w w2) := B1.out.trans (hb.mono B1.out.size)
    have BR2 : Hid (Box w2 w.heap.size 140 #[.int .i64 0, .slice none 0 0]) := BR1.out.belowS hb
    have O2 : Hid (w2.ownsRow V1.heap.size 9 1 (.slice a2 ST.length c2) ST.length (ST.map Value.string)) := o2
    have f2 : w2.cell? ⟨b, off + 2, none⟩ = some (.int .u8 x2) := far6 hb e2
    have f3 : w2.cell? ⟨b, off + 3, none⟩ = some (.int .u8 x3) := far6 hb e3
    have q12 : V1.heap.size ≤ w2.heap.size := hb.size
    have hbl2 : b < w2.heap.size := World.block_lt_of_cell? w2 ⟨b, off + 2, none⟩ f2
    clear hb o2 e2 e3 y0 y1 u0 u1 t0 t1 em' RF
    go_wp2_with fail
    go_region
    obtain ⟨V3, hV3⟩ : ∃ W, (w2.alloc (.cells #[.int .i64 (x2 * 256 + x3), .slice a2 ST.length c2] 140)).drew = W := ⟨_, rfl⟩
    have hbv : Below w2.heap.size w2 V3 := by rw [← hV3]; exact ((Below.refl _ _).alloc (Nat.le_refl _) _).drew
    have B3 : Hid (Below w.heap.size w V3) := B2.out.trans (hbv.mono B2.out.size)
    have BR3 : Hid (Box V3 w.heap.size 140 #[.int .i64 0, .slice none 0 0]) := BR2.out.belowS hbv
    have BP3 : Hid (Box V3 w2.heap.size 140 #[.int .i64 (x2 * 256 + x3), .slice a2 ST.length c2]) := by unfold Hid; rw [← hV3]; exact Box.new w2 _ _
    have O3 : Hid (OwnG V3 V1.heap.size w2.heap.size ⟨x2 * 256 + x3, a2, ST.length, c2⟩ ⟨x2 * 256 + x3, ST⟩) := ⟨rfl, own_below O2.out hbv, hbv.size, fun g e => O2.out.lt g (by rw [ob_slice]; exact e)⟩
    rw [hV3]
    clear hV3 hbv B2 BR2 O2 f2 f3 hbl2
    obtain ⟨p0, p1⟩ := box2 BP3.out
    obtain ⟨u0, u1⟩ := box2 BR3.out
    have t0 := BR3.out.thaw 0
    have t1 := BR3.out.thaw 1
    rcases HOR.out with ⟨h0, hS⟩ | ⟨h3, hN, _⟩
    case inr =>
      have E : Hid (rpD no x = none) := rp_form hN
      rw [h3]
      clear HOR RW h3 hN
      go_wp2
      refine retG2 Tryz.results301 rfl rfl rfl (put2_box BR3.out _ _) ⟨?_, put2_below B3.out (Nat.le_refl _) _ _⟩
      rw [E.out]
      exact ⟨⟨0, none, 0, 0⟩, rfl, own_zero _ _ _ (Nat.le_refl _)⟩
    have HS : Hid (okR (x.drop 4) = some ST) := hS
    have hfit := RW.out h0
    have FT : Hid (FitG ⟨x2 * 256 + x3, ST⟩) := ⟨by have := hfit.1; show ST.length ≤ 1048576; omega, fun s h => by have := hfit.2 s h; omega⟩
    rw [h0]
    clear HOR RW h0 hS hfit
    go_wp2_with fail
    refine (c_implOK ⟨x2 * 256 + x3, a2, ST.length, c2⟩ ⟨x2 * 256 + x3, ST⟩ V3 O3.out.rd FT.out).mono ?_
    rintro e w4 ⟨rfl, hb⟩
    have B4 : Hid (Below w.heap.size w w4) := B3.out.trans (hb.mono B3.out.size)
    have BR4 : Hid (Box w4 w.heap.size 140 #[.int .i64 0, .slice none 0 0]) := BR3.out.belowS hb
    have BP4 : Hid (Box w4 w2.heap.size 140 #[.int .i64 (x2 * 256 + x3), .slice a2 ST.length c2]) := BP3.out.belowS hb
    have O4 : Hid (OwnG w4 V1.heap.size w2.heap.size ⟨x2 * 256 + x3, a2, ST.length, c2⟩ ⟨x2 * 256 + x3, ST⟩) := O3.out.below hb
    clear hb B3 BR3 BP3 O3 p0 p1 u0 u1 t0 t1
    obtain ⟨p0, p1⟩ := box2 BP4.out
    obtain ⟨u0, u1⟩ := box2 BR4.out
    have t0 := BR4.out.thaw 0
    have t1 := BR4.out.thaw 1
    cases hg : okG ⟨x2 * 256 + x3, ST⟩
    · have E : Hid (rpD no x = none) := rp_bad HS.out (by rw [HX.out.2.2]; exact hg)
      clear hg
      go_wp2
      refine retG2 Tryz.results301 rfl rfl rfl (put2_box BR4.out _ _) ⟨?_, put2_below B4.out (Nat.le_refl _) _ _⟩
      rw [E.out]
      exact ⟨⟨0, none, 0, 0⟩, rfl, own_zero _ _ _ (Nat.le_refl _)⟩
    · have E : Hid (rpD no x = some ⟨x2 * 256 + x3, ST⟩) := by unfold Hid; rw [← HX.out.2.2]; exact rp_yes (by have := HXL.out; omega) HM.out HS.out (by rw [HX.out.2.2]; exact hg)
      clear hg
      go_wp2
      refine retG2 Tryz.results301 rfl rfl rfl (put2_box BR4.out _ _) ⟨?_, put2_below B4.out (Nat.le_refl _) _ _⟩
      rw [E.out]
      have := O4.out.put2 (r := w.heap.size) (.inl (by omega)) (.int .i64 (x2 * 256 + x3)) (.slice a2 ST.length c2)
      exact ⟨⟨x2 * 256 + x3, a2, ST.length, c2⟩, rfl, this.wide (B' := w.heap.size) (by omega)⟩
  · go_wp2_with fail
    refine (RF.out ⟨b, off + 4, none⟩ (by simp)).mono ?_
    rintro e w2 ⟨a2, c2, rfl, o2, hb⟩
    rw [← HST.out] at o2
    rw [← HST.out, ← HEC.out]
    have B2 : Hid (Below w.heap.size w w2) := B1.out.trans (hb.mono B1.out.size)
    have BR2 : Hid (Box w2 w.heap.size 140 #[.int .i64 0, .slice none 0 0]) := BR1.out.belowS hb
    have O2 : Hid (w2.ownsRow V1.heap.size 9 1 (.slice a2 ST.length c2) ST.length (ST.map Value.string)) := o2
    have f2 : w2.cell? ⟨b, off + 2, none⟩ = some (.int .u8 x2) := far6 hb e2
    have f3 : w2.cell? ⟨b, off + 3, none⟩ = some (.int .u8 x3) := far6 hb e3
    have q12 : V1.heap.size ≤ w2.heap.size := hb.size
    have hbl2 : b < w2.heap.size := World.block_lt_of_cell? w2 ⟨b, off + 2, none⟩ f2
    clear hb o2 e2 e3 y0 y1 u0 u1 t0 t1 em' RF
    go_wp2_with fail
    go_region
    obtain ⟨V3, hV3⟩ : ∃ W, (w2.alloc (.cells #[.int .i64 (x2 * 256 + x3), .slice a2 ST.length c2] 140)).drew = W := ⟨_, rfl⟩
    have hbv : Below w2.heap.size w2 V3 := by rw [← hV3]; exact ((Below.refl _ _).alloc (Nat.le_refl _) _).drew
    have B3 : Hid (Below w.heap.size w V3) := B2.out.trans (hbv.mono B2.out.size)
    have BR3 : Hid (Box V3 w.heap.size 140 #[.int .i64 0, .slice none 0 0]) := BR2.out.belowS hbv
    have BP3 : Hid (Box V3 w2.heap.size 140 #[.int .i64 (x2 * 256 + x3), .slice a2 ST.length c2]) := by unfold Hid; rw [← hV3]; exact Box.new w2 _ _
    have O3 : Hid (OwnG V3 V1.heap.size w2.heap.size ⟨x2 * 256 + x3, a2, ST.length, c2⟩ ⟨x2 * 256 + x3, ST⟩) := ⟨rfl, own_below O2.out hbv, hbv.size, fun g e => O2.out.lt g (by rw [ob_slice]; exact e)⟩
    rw [hV3]
    clear hV3 hbv B2 BR2 O2 f2 f3 hbl2
    obtain ⟨p0, p1⟩ := box2 BP3.out
    obtain ⟨u0, u1⟩ := box2 BR3.out
    have t0 := BR3.out.thaw 0
    have t1 := BR3.out.thaw 1
    rcases HOR.out with ⟨h0, hS⟩ | ⟨h3, hN, _⟩
    case inr =>
      have E : Hid (rpD no x = none) := rp_form hN
      rw [h3]
      clear HOR RW h3 hN
      go_wp2
      refine retG2 Tryz.results301 rfl rfl rfl (put2_box BR3.out _ _) ⟨?_, put2_below B3.out (Nat.le_refl _) _ _⟩
      rw [E.out]
      exact ⟨⟨0, none, 0, 0⟩, rfl, own_zero _ _ _ (Nat.le_refl _)⟩
    have HS : Hid (okR (x.drop 4) = some ST) := hS
    have hfit := RW.out h0
    have FT : Hid (FitG ⟨x2 * 256 + x3, ST⟩) := ⟨by have := hfit.1; show ST.length ≤ 1048576; omega, fun s h => by have := hfit.2 s h; omega⟩
    rw [h0]
    clear HOR RW h0 hS hfit
    go_wp2_with fail
    refine (c_implOK ⟨x2 * 256 + x3, a2, ST.length, c2⟩ ⟨x2 * 256 + x3, ST⟩ V3 O3.out.rd FT.out).mono ?_
    rintro e w4 ⟨rfl, hb⟩
    have B4 : Hid (Below w.heap.size w w4) := B3.out.trans (hb.mono B3.out.size)
    have BR4 : Hid (Box w4 w.heap.size 140 #[.int .i64 0, .slice none 0 0]) := BR3.out.belowS hb
    have BP4 : Hid (Box w4 w2.heap.size 140 #[.int .i64 (x2 * 256 + x3), .slice a2 ST.length c2]) := BP3.out.belowS hb
    have O4 : Hid (OwnG w4 V1.heap.size w2.heap.size ⟨x2 * 256 + x3, a2, ST.length, c2⟩ ⟨x2 * 256 + x3, ST⟩) := O3.out.below hb
    clear hb B3 BR3 BP3 O3 p0 p1 u0 u1 t0 t1
    obtain ⟨p0, p1⟩ := box2 BP4.out
    obtain ⟨u0, u1⟩ := box2 BR4.out
    have t0 := BR4.out.thaw 0
    have t1 := BR4.out.thaw 1
    cases hg : okG ⟨x2 * 256 + x3, ST⟩
    · have E : Hid (rpD no x = none) := rp_bad HS.out (by rw [HX.out.2.2]; exact hg)
      clear hg
      go_wp2
      refine retG2 Tryz.results301 rfl rfl rfl (put2_box BR4.out _ _) ⟨?_, put2_below B4.out (Nat.le_refl _) _ _⟩
      rw [E.out]
      exact ⟨⟨0, none, 0, 0⟩, rfl, own_zero _ _ _ (Nat.le_refl _)⟩
    · have E : Hid (rpD no x = some ⟨x2 * 256 + x3, ST⟩) := by unfold Hid; rw [← HX.out.2.2]; exact rp_yes (by have := HXL.out; omega) HM.out HS.out (by rw [HX.out.2.2]; exact hg)
      clear hg
      go_wp2
      refine retG2 Tryz.results301 rfl rfl rfl (put2_box BR4.out _ _) ⟨?_, put2_below B4.out (Nat.le_refl _) _ _⟩
      rw [E.out]
      have := O4.out.put2 (r := w.heap.size) (.inl (by omega)) (.int .i64 (x2 * 256 + x3)) (.slice a2 ST.length c2)
      exact ⟨⟨x2 * 256 + x3, a2, ST.length, c2⟩, rfl, this.wide (B' := w.heap.size) (by omega)⟩

end Go.Proofs.YtfibdpfhfgnbiaaGreatDoor.G
namespace Go.Proofs.YtfibdpfhfgnbiaaGreatDoor
open Go Go.RowKit
attribute [local go_sem ↓] Go.wp_at_zero Go.wp_at_succ


def numD (x : List Int) (b a : ByteArray) : DR := ⟨x.getD 1 0, x.getD 2 0, x.getD 3 0, x.getD 4 0, x.getD 5 0, x.getD 6 0, x.getD 7 0, x.getD 8 0, b, a⟩
def rrD (x : List Int) : Option DR :=
  if x.length < 9 then none else if x.getD 0 0 = 108 then
    (match okR (x.drop 9) with
      | some [b, a] => if okLR (numD x b a) then some (numD x b a) else none
      | _ => none)
  else none
theorem rr_lo {x : List Int} (h : x.length < 9) : rrD x = none := by unfold rrD; rw [if_pos h]
theorem rr_mark {x : List Int} (h : ¬ x.getD 0 0 = 108) : rrD x = none := by unfold rrD; rw [if_neg h]; split <;> rfl
theorem rr_form {x : List Int} (h : okR (x.drop 9) = none) : rrD x = none := by unfold rrD; rw [h]; split <;> (try split) <;> rfl
theorem rr_two {x : List Int} {l : List ByteArray} (h : okR (x.drop 9) = some l) (hl : l.length ≠ 2) : rrD x = none := by
  unfold rrD
  rw [h]
  rcases l with _ | ⟨a, _ | ⟨b, _ | ⟨c, r⟩⟩⟩
  · split <;> (try split) <;> rfl
  · split <;> (try split) <;> rfl
  · simp at hl
  · split <;> (try split) <;> rfl
theorem rr_at {x : List Int} {b a : ByteArray} (h9 : ¬ x.length < 9) (h0 : x.getD 0 0 = 108) (h : okR (x.drop 9) = some [b, a]) : rrD x = if okLR (numD x b a) then some (numD x b a) else none := by
  unfold rrD
  rw [if_neg h9, if_pos h0, h]
theorem rd_sizes : ∀ (c : Nat) (zr : List Int) (l : List ByteArray), (∀ z ∈ zr, 0 ≤ z ∧ z < 256) → rd c zr = some l → ∀ s ∈ l, s.size ≤ 255
  | 0, zr, l, _, h => by
    rw [rd_done] at h
    split at h
    · cases h; intro s hs; cases hs
    · cases h
  | c + 1, [], l, _, h => by rw [rd_none (by omega) rfl] at h; cases h
  | c + 1, z :: r, l, hz, h => by
    by_cases hl : r.length < z.toNat
    · rw [rd_short (by omega) hl] at h; cases h
    · rw [rd_step hl] at h
      cases hr : rd c (r.drop z.toNat) with
      | none => rw [hr] at h; cases h
      | some l' =>
        rw [hr] at h
        simp only [Option.map_some, Option.some.injEq] at h
        subst h
        intro s hs
        rcases List.mem_cons.1 hs with rfl | hs
        · rw [strOfNums_size, List.length_take]
          have := hz z (by simp)
          omega
        · exact rd_sizes c (r.drop z.toNat) l' (fun y hy => hz y (List.mem_cons_of_mem _ (List.mem_of_mem_drop hy))) hr s hs
theorem okR_sizes {zs : List Int} {l : List ByteArray} (hz : ∀ z ∈ zs, 0 ≤ z ∧ z < 256) (h : okR zs = some l) : ∀ s ∈ l, s.size ≤ 255 := by
  unfold okR at h
  split at h
  · cases h
  · split at h
    · cases h
    · exact rd_sizes _ _ _ (fun y hy => hz y (List.mem_cons_of_mem _ hy)) h
theorem loadVarR {w : World} {r : Nat} {D : DR} (hb : Box w r 78 (agR D)) : (loadVar 78 ⟨r, 0, none⟩).run Tryz.prog w = .ok (.agg (agR D)) w := by
  obtain ⟨e0, e1, e2, e3, e4, e5, e6, e7, e8, e9⟩ := box10 hb
  simp [go_sem, e0, e1, e2, e3, e4, e5, e6, e7, e8, e9, agR]
theorem retR2 {fn : Func} {p u : Tmp} (h : fn.results = #[.cell p 78, .tmp u]) {R : Ending → World → Prop} {a : Act} {w : World} {r : Nat} {D : DR} {v : Value} (hp : a.tmps.getD p undef = .pointer (some ⟨r, 0, none⟩)) (hu : a.tmps.getD u undef = v) (hd : a.defers = []) (hb : Box w r 78 (agR D)) (hR : R (.returned (.tuple #[.agg (agR D), v])) w) : bodyPost Tryz.prog fn R .ret a w := by
  refine bodyPost_ret ?_ hd hR
  have hp' : a.tmps[p]?.getD undef = .pointer (some ⟨r, 0, none⟩) := by simpa using hp
  have hu' : a.tmps[u]?.getD undef = v := by simpa using hu
  simp only [results, h]
  simp [Result.andThen, hp', hu', asAddr, loadVarR hb]
def put10 (V : World) (r : Nat) (D : DR) : World := (((((((((V.setCell ⟨r, 0, none⟩ (.int .i64 D.e)).setCell ⟨r, 1, none⟩ (.int .i64 D.l)).setCell ⟨r, 2, none⟩ (.int .i64 D.t)).setCell ⟨r, 3, none⟩ (.int .i64 D.k)).setCell ⟨r, 4, none⟩ (.int .i64 D.p)).setCell ⟨r, 5, none⟩ (.int .i64 D.n)).setCell ⟨r, 6, none⟩ (.int .i64 D.g)).setCell ⟨r, 7, none⟩ (.int .i64 D.s)).setCell ⟨r, 8, none⟩ (.string D.b)).setCell ⟨r, 9, none⟩ (.string D.a)
theorem put10_box {V : World} {r : Nat} {t : TypeId} {D0 : DR} (h : Box V r t (agR D0)) (D : DR) : Box (put10 V r D) r t (agR D) := by
  have := (((((((((h.set 0 (.int .i64 D.e)).set 1 (.int .i64 D.l)).set 2 (.int .i64 D.t)).set 3 (.int .i64 D.k)).set 4 (.int .i64 D.p)).set 5 (.int .i64 D.n)).set 6 (.int .i64 D.g)).set 7 (.int .i64 D.s)).set 8 (.string D.b)).set 9 (.string D.a)
  simpa [agR, put10] using this
theorem put10_below {B : Nat} {w V : World} (hb : Below B w V) {r : Nat} (hr : B ≤ r) (D : DR) : Below B w (put10 V r D) :=
  (((((((((hb.setCell hr _).setCell hr _).setCell hr _).setCell hr _).setCell hr _).setCell hr _).setCell hr _).setCell hr _).setCell hr _).setCell hr _
theorem thaw10 {w : World} {r : Nat} {t : TypeId} {c : Array Value} (h : Box w r t c) : w.frozen? ⟨r, 0, none⟩ = false ∧ w.frozen? ⟨r, 1, none⟩ = false ∧ w.frozen? ⟨r, 2, none⟩ = false ∧ w.frozen? ⟨r, 3, none⟩ = false ∧ w.frozen? ⟨r, 4, none⟩ = false ∧ w.frozen? ⟨r, 5, none⟩ = false ∧ w.frozen? ⟨r, 6, none⟩ = false ∧ w.frozen? ⟨r, 7, none⟩ = false ∧ w.frozen? ⟨r, 8, none⟩ = false ∧ w.frozen? ⟨r, 9, none⟩ = false :=
  ⟨h.thaw 0, h.thaw 1, h.thaw 2, h.thaw 3, h.thaw 4, h.thaw 5, h.thaw 6, h.thaw 7, h.thaw 8, h.thaw 9⟩

end Go.Proofs.YtfibdpfhfgnbiaaGreatDoor
namespace Go.Proofs.YtfibdpfhfgnbiaaGreatDoor
open Go Go.RowKit
attribute [local go_sem ↓] Go.wp_at_zero Go.wp_at_succ


def hbZ (n : Int) : List Int := [104, n]
def hbR (n : Int) : List Int := if inB n 0 60 then hbZ n ++ sumZ (Crc.crc (hbZ n) : Nat) else []
def hbC (n : Int) : Int := if inB n 0 60 then 0 else 4
theorem hb4 {n : Int} (h : inB n 0 60 = false) : hbC n = 4 ∧ hbR n = [] := by unfold hbC hbR; rw [h]; exact ⟨rfl, rfl⟩
theorem hb0 {n : Int} (h : inB n 0 60 = true) : hbC n = 0 ∧ hbR n = hbZ n ++ sumZ (Crc.crc (hbZ n) : Nat) := by unfold hbC hbR; rw [h]; exact ⟨rfl, rfl⟩
theorem hb_bytes {n : Int} (h : inB n 0 60 = true) : ∀ z ∈ hbZ n, 0 ≤ z ∧ z < 256 := by
  have h1 : 0 ≤ n ∧ n ≤ 60 := by simpa [inB] using h
  intro z hz
  simp [hbZ] at hz
  rcases hz with rfl | rfl <;> omega
theorem hbR_fit (n : Int) : (hbR n).length ≤ 1048576 := by
  cases h : inB n 0 60
  · rw [(hb4 h).2]; simp
  · rw [(hb0 h).2]; simp [hbZ, sumZ]
theorem c_epoch (n : Int) (w : World) : Calls Tryz.prog 235 #[.int .i64 n] w fun e w' => e = .returned (.bool (inB n 0 60)) ∧ w' = w := by
  by_cases h1 : 0 ≤ n <;> by_cases h2 : n ≤ 60
  all_goals
    go_enter Tryz.func235, Tryz.ntmps235
    go_wp2
    go_ret
    exact ⟨ret_bool (by simp [inB, h1, h2]), rfl⟩
end Go.Proofs.YtfibdpfhfgnbiaaGreatDoor
namespace Go.Proofs.YtfibdpfhfgnbiaaGreatDoor
open Go Go.RowKit
attribute [local go_sem ↓] Go.wp_at_zero Go.wp_at_succ


theorem conv_rdV {W : World} {zs : List Int} {c : Nat} {fr : Nat × Nat} (hz : ∀ z ∈ zs, 0 ≤ z ∧ z < 256) : RdV (W.alloc (.cells (bytesRow (strOfNums zs) c) 5 fr)) (some ⟨W.heap.size, 0, none⟩) zs.length (zs.map (Value.int .u8)) := by
  refine ⟨by simp, fun h => ⟨W.heap.size, 0, rfl, by simp, fun i hi => ?_⟩⟩
  have hb : (W.alloc (.cells (bytesRow (strOfNums zs) c) 5 fr)).heap[W.heap.size]? = some (.cells (bytesRow (strOfNums zs) c) 5 fr) := by
    show (W.heap.push _)[W.heap.size]? = _
    simp
  have hsz : i < (strOfNums zs).data.size := by have := strOfNums_size zs; rw [ByteArray.size] at this; omega
  rw [Nat.zero_add, cell_of_row _ W.heap.size i _ 5 fr hb, bytesRow_at _ _ _ hsz]
  have hs2 : i < (strOfNums zs).size := by rw [strOfNums_size]; exact hi
  rw [map_get _ _ 0 _ hi]
  exact congrArg (fun z => some (Value.int .u8 z)) (son_get (p := i) hz hs2)

end Go.Proofs.YtfibdpfhfgnbiaaGreatDoor
