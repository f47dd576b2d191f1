/-
  What page bytes say: the specification's own.
-/
import Derived.Test.YtcokbogicbdoaaaDoorZzai
namespace Go.Proofs.YtcokbogicbdoaaaDoor.G
open Go Go.RowKit
attribute [local go_sem ↓] Go.wp_at_zero Go.wp_at_succ


theorem pair_of {x : List Int} (h : 4 ≤ x.length) : ofL ((x.drop 2).take 2) = lsnZ x := by
  have e : (x.drop 2).take 2 = [x.getD 2 0, x.getD 3 0] := by
    apply List.ext_getElem
    · simp; omega
    intro i h1 h2
    simp at h2
    have : i = 0 ∨ i = 1 := by omega
    rcases this with rfl | rfl
    all_goals
      simp only [List.getElem_take, List.getElem_drop, List.getElem_cons_zero, List.getElem_cons_succ]
      rw [List.getD_eq_getElem?_getD, List.getElem?_eq_getElem (by omega)]
      rfl
  rw [e]
  simp [ofL, lsnZ]
set_option maxRecDepth 100000 in
set_option maxHeartbeats 2000000 in
theorem c_read (no : Int) (zs : List Int) (w : World) (hz : ∀ z ∈ zs, 0 ≤ z ∧ z < 256) (hn : zs.length ≤ 65536) (h4 : 4 ≤ zs.length) (hu : unsB zs = true) :
    Calls Tryd.prog 42 #[.int .i64 no, .string (strOfNums zs)] w fun e w' => (∃ (h' : HG), e = .returned (.tuple #[.agg #[.int .i64 h'.l, .slice h'.a h'.n h'.c], .bool (rpD no (headZ zs)).isSome]) ∧ ∃ D' : DG, OwnG w' w.heap.size w'.heap.size h' D' ∧ ∀ D, rpD no (headZ zs) = some D → D' = D) ∧ Below w.heap.size w w' := by
  have US : Hid (∀ W : World, Calls Tryd.prog 66 #[.string (strOfNums zs)] W fun e w' => e = .returned (.tuple #[.string (strOfNums (headZ zs)), .bool true]) ∧ Below W.heap.size W w') := fun W => by
    have := c_unsealS zs W hz hn h4
    rw [hu] at this
    exact this
  obtain ⟨x, hx⟩ : ∃ x, x = headZ zs := ⟨_, rfl⟩
  have hxz : ∀ z ∈ x, 0 ≤ z ∧ z < 256 := by rw [hx]; exact head_bytes hz
  have hxl : x.length ≤ 65532 := by rw [hx, headZ_len]; omega
  rw [← hx] at US ⊢
  clear hx hz hn h4 hu
  obtain ⟨V, hV⟩ : ∃ V, w.alloc (.cells #[.int .i64 0, .slice none 0 0] 49) = V := ⟨_, rfl⟩
  have HB : Hid (Below w.heap.size w V) := by unfold Hid; rw [← hV]; exact (Below.refl _ _).alloc (Nat.le_refl _) _
  have BR : Hid (Box V w.heap.size 49 #[.int .i64 0, .slice none 0 0]) := by unfold Hid; rw [← hV]; exact Box.new _ _ _
  obtain ⟨X, hX⟩ : ∃ X, X = strOfNums x := ⟨_, rfl⟩
  rw [← hX] at US
  have hXs : X.size = x.length := by rw [hX, strOfNums_size]
  have HG : Hid (∀ p (h : p < X.size), ((X[p]'h).toNat : Int) = x.getD p 0) := by
    intro p h; subst hX; exact son_get hxz h
  have HX4 : Hid (X.extract 4 X.size = strOfNums (x.drop 4)) := by unfold Hid; rw [hX, son_cut, strOfNums_size, List.take_of_length_le (by rw [List.length_drop]; omega)]
  have HX2 : Hid (X.extract 2 4 = strOfNums ((x.drop 2).take 2)) := by unfold Hid; rw [hX, son_cut]
  have HXS : Hid (X.size = x.length) := hXs
  have HZ : Hid (∀ z ∈ x, 0 ≤ z ∧ z < 256) := hxz
  have hXb : X.size ≤ 65532 := by omega
  clear hX hXs hxz
  go_enter Tryd.func42, Tryd.ntmps42
  go_wp2_with fail
  refine (US.out V).mono ?_
  rintro e w1 ⟨rfl, hb⟩
  have B1 : Hid (Below w.heap.size w w1) := HB.out.trans (hb.mono HB.out.size)
  have BR1 : Hid (Box w1 w.heap.size 49 #[.int .i64 0, .slice none 0 0]) := BR.out.belowS hb
  clear hb hV HB BR US
  obtain ⟨u0, u1⟩ := box2 BR1.out
  have t0 := BR1.out.thaw 0
  have t1 := BR1.out.thaw 1
  have q01 : w.heap.size < w1.heap.size := BR1.out.lt
  by_cases h5 : X.size < 5
  · have E : Hid (rpD no x = none) := by
      have hl := HXS.out
      by_cases h : x.length < 4
      · exact rp_lo h
      · refine rp_form ?_
        have : x.drop 4 = [] := List.eq_nil_of_length_eq_zero (by rw [List.length_drop]; omega)
        rw [this]; rfl
    go_wp2
    refine retG2 Tryd.results42 rfl rfl rfl (put2_box BR1.out _ _) ⟨?_, put2_below B1.out (Nat.le_refl _) _ _⟩
    rw [E.out]
    exact ⟨⟨0, none, 0, 0⟩, rfl, ⟨0, []⟩, own_zero _ _ _ (Nat.le_refl _), fun _ h => by cases h⟩
  have g0 : 0 < X.size := by omega
  have g1 : 1 < X.size := by omega
  obtain ⟨x0, hx0⟩ : ∃ z : Int, z = x.getD 0 0 := ⟨_, rfl⟩
  obtain ⟨x1, hx1⟩ : ∃ z : Int, z = x.getD 1 0 := ⟨_, rfl⟩
  have i0 : ∀ wx : World, (Instr.index 9 (.string X) (.int .i64 0)).run Tryd.prog wx = .ok (.int .u8 x0) wx := fun wx => by
    have := run_index_string (P := Tryd.prog) wx 9 X .i64 ((0 : Nat) : Int) Tryd.underlying9
    rw [show ((0 : Nat) : Int) = 0 from rfl] at this
    rw [this, hx0, ← HG.out 0 g0]
    simp [g0]
  have i1 : ∀ wx : World, (Instr.index 9 (.string X) (.int .i64 1)).run Tryd.prog wx = .ok (.int .u8 x1) wx := fun wx => by
    have := run_index_string (P := Tryd.prog) wx 9 X .i64 ((1 : Nat) : Int) Tryd.underlying9
    rw [show ((1 : Nat) : Int) = 1 from rfl] at this
    rw [this, hx1, ← HG.out 1 g1]
    simp
    rw [dif_pos (by omega)]
  have r1 : 0 ≤ x1 ∧ x1 < 256 := by rw [hx1, ← HG.out 1 g1]; have := (X[1]'g1).toNat_lt; omega
  have HE : Hid (x.getD 0 0 = x0 ∧ x.getD 1 0 = x1) := ⟨hx0.symm, hx1.symm⟩
  clear hx0 hx1 HG
  by_cases hm0 : x0 = 112
  case neg =>
    have E : Hid (rpD no x = none) := rp_mark (by rw [HE.out.1]; exact fun h => hm0 h.1)
    have c0 : (x0 != 112) = true := by simpa using hm0
    clear hm0
    go_wp2
    refine retG2 Tryd.results42 rfl rfl rfl (put2_box BR1.out _ _) ⟨?_, put2_below B1.out (Nat.le_refl _) _ _⟩
    rw [E.out]
    exact ⟨⟨0, none, 0, 0⟩, rfl, ⟨0, []⟩, own_zero _ _ _ (Nat.le_refl _), fun _ h => by cases h⟩
  have c0 : (x0 != 112) = false := by simp [hm0]
  by_cases hm1 : x1 = no
  case neg =>
    have E : Hid (rpD no x = none) := rp_mark (by rw [HE.out.2]; exact fun h => hm1 h.2)
    have c1 : (x1 != no) = true := by simpa using hm1
    clear hm0 hm1
    go_wp2
    refine retG2 Tryd.results42 rfl rfl rfl (put2_box BR1.out _ _) ⟨?_, put2_below B1.out (Nat.le_refl _) _ _⟩
    rw [E.out]
    exact ⟨⟨0, none, 0, 0⟩, rfl, ⟨0, []⟩, own_zero _ _ _ (Nat.le_refl _), fun _ h => by cases h⟩
  have c1 : (x1 != no) = false := by simp [hm1]
  have HM : Hid (x.getD 0 0 = 112 ∧ x.getD 1 0 = no) := by unfold Hid; rw [HE.out.1, HE.out.2]; exact ⟨hm0, hm1⟩
  clear hm0 hm1
  have RD : Hid (∀ W : World, Calls Tryd.prog 67 #[.string (X.extract 4 X.size)] W (AnsI W (x.drop 4))) := fun W => by
    rw [HX4.out]
    exact c39 (x.drop 4) W (fun z h => HZ.out z (List.mem_of_mem_drop h)) (by rw [List.length_drop]; omega)
  have OF : Hid (∀ W : World, Calls Tryd.prog 68 #[.string (X.extract 2 4)] W fun e w' => e = .returned (.int .i64 (lsnZ x)) ∧ w' = W) := fun W => by
    rw [HX2.out, ← pair_of (x := x) (by have := HXS.out; omega)]
    exact c_of ((x.drop 2).take 2) W (fun z h => HZ.out z (List.mem_of_mem_drop (List.mem_of_mem_take h))) (by rw [List.length_take]; omega)
  clear HX4 HX2
  have g4 : (4 : Int) ≤ (X.size : Int) := by omega
  have g5 : (2 : Int) ≤ (X.size : Int) := by omega
  go_wp2_with fail
  refine (RD.out w1).mono ?_
  rintro e w2 ⟨v, rfl, o2, hb⟩
  have B2 : Hid (Below w.heap.size w w2) := B1.out.trans (hb.mono B1.out.size)
  have BR2 : Hid (Box w2 w.heap.size 49 #[.int .i64 0, .slice none 0 0]) := BR1.out.belowS hb
  obtain ⟨ST, hST⟩ : ∃ l, l = (okR (x.drop 4)).getD [] := ⟨_, rfl⟩
  rw [← hST] at o2
  obtain ⟨a2, c2, rfl, l2⟩ := own_slc o2
  have O2 : Hid (w2.ownsRow w1.heap.size 9 1 (.slice a2 ST.length c2) ST.length (ST.map Value.string)) := o2
  have HST : Hid (ST = (okR (x.drop 4)).getD []) := hST
  have q12 : w1.heap.size ≤ w2.heap.size := hb.size
  clear hb o2 l2 hST B1 BR1 u0 u1 t0 t1 RD
  go_wp2_with fail
  refine (OF.out w2).mono ?_
  rintro e w3 ⟨rfl, hq⟩
  have hq' := hq.symm
  subst hq'
  clear hq OF
  obtain ⟨V3, hV3⟩ : ∃ W, w2.alloc (.cells #[.int .i64 (lsnZ x), .slice a2 ST.length c2] 49) = W := ⟨_, rfl⟩
  have hbv : Below w2.heap.size w2 V3 := by rw [← hV3]; exact (Below.refl _ _).alloc (Nat.le_refl _) _
  have B3 : Hid (Below w.heap.size w V3) := B2.out.trans (hbv.mono B2.out.size)
  have BR3 : Hid (Box V3 w.heap.size 49 #[.int .i64 0, .slice none 0 0]) := BR2.out.belowS hbv
  have BP3 : Hid (Box V3 w2.heap.size 49 #[.int .i64 (lsnZ x), .slice a2 ST.length c2]) := by unfold Hid; rw [← hV3]; exact Box.new _ _ _
  have O3 : Hid (OwnG V3 w1.heap.size w2.heap.size ⟨lsnZ x, a2, ST.length, c2⟩ ⟨lsnZ x, ST⟩) := ⟨rfl, own_below O2.out hbv, hbv.size, fun g e => O2.out.lt g (by rw [ob_slice]; exact e)⟩
  clear hbv B2 BR2 O2
  obtain ⟨p0, p1⟩ := box2 BP3.out
  obtain ⟨u0, u1⟩ := box2 BR3.out
  have t0 := BR3.out.thaw 0
  have t1 := BR3.out.thaw 1
  have l2 := BP3.out.lt
  have l3 := BR3.out.lt
  cases ho : okR (x.drop 4) with
  | none =>
    have E : Hid (rpD no x = none) := rp_form ho
    clear ho
    rw [Option.isSome_none]
    go_wp2_with fail
    go_region
    go_wp2
    refine retG2 Tryd.results42 rfl rfl rfl (put2_box (BR3.out.drewN 1) _ _) ⟨?_, put2_below (below_drewN B3.out 1) (Nat.le_refl _) _ _⟩
    rw [E.out]
    have := (show OwnG (V3.drewN 1) w1.heap.size w2.heap.size ⟨lsnZ x, a2, ST.length, c2⟩ ⟨lsnZ x, ST⟩ from O3.out).put2 (r := w.heap.size) (.inl (by omega)) (.int .i64 (lsnZ x)) (.slice a2 ST.length c2)
    exact ⟨⟨lsnZ x, a2, ST.length, c2⟩, rfl, ⟨lsnZ x, ST⟩, this.wide (B' := w.heap.size) (by omega), fun _ h => by cases h⟩
  | some l =>
    have hl : ST = l := by rw [HST.out, ho]; rfl
    subst hl
    have HO : Hid (okR (x.drop 4) = some ST) := ho
    clear ho
    rw [Option.isSome_some]
    have hfit : ST.length ≤ 100 ∧ ∀ s ∈ ST, s.size ≤ 255 := by
      have h0 := ansR0 (zs := x.drop 4) (by rw [List.length_drop]; omega) HO.out
      have := (read_write (fun z h => HZ.out z (List.mem_of_mem_drop h)) h0.1).2.2
      rw [h0.2] at this
      exact this
    have FT : Hid (FitG ⟨lsnZ x, ST⟩) := ⟨by have := hfit.1; show ST.length ≤ 1048576; omega, fun s h => by have := hfit.2 s h; omega⟩
    clear hfit
    have PK : Hid (∀ W : World, Below V3.heap.size V3 W → Calls Tryd.prog 28 #[.agg #[.int .i64 (lsnZ x), .slice a2 ST.length c2]] W fun e w' => e = .returned (.bool (okG ⟨lsnZ x, ST⟩)) ∧ Below W.heap.size W w') := fun W hW => c_specOK ⟨lsnZ x, a2, ST.length, c2⟩ ⟨lsnZ x, ST⟩ W (O3.out.rd.below hW) FT.out
    go_wp2_with fail
    go_region_with (first
      | (go_at_call 28; refine (PK.out _ (by first | exact (Below.refl _ _).drew | exact Below.refl _ _)).mono ?_; rintro e w4 ⟨rfl, hb4⟩
         have BR4 : Hid (Box w4 w.heap.size 49 #[.int .i64 0, .slice none 0 0]) := (hb4.block w.heap.size l3).trans BR3.out
         obtain ⟨y0, y1⟩ := box2 BR4.out
         have s0 := BR4.out.thaw 0
         have s1 := BR4.out.thaw 1
         have BP4 : Hid (Box w4 w2.heap.size 49 #[.int .i64 (lsnZ x), .slice a2 ST.length c2]) := (hb4.block w2.heap.size l2).trans BP3.out
         obtain ⟨z0, z1⟩ := box2 BP4.out))
    all_goals
      have B4 : Hid (Below w.heap.size w w4) := B3.out.drew.trans (hb4.mono B3.out.size)
      have O4 : Hid (OwnG w4 w1.heap.size w2.heap.size ⟨lsnZ x, a2, ST.length, c2⟩ ⟨lsnZ x, ST⟩) := O3.out.same hb4.size (fun g _ h2 => hb4.block g (Nat.lt_trans h2 l2))
      have ES : Hid ((rpD no x).isSome = okG ⟨lsnZ x, ST⟩ ∧ ∀ D, rpD no x = some D → (⟨lsnZ x, ST⟩ : DG) = D) := by
        cases hg : okG ⟨lsnZ x, ST⟩
        · have := rp_bad (no := no) HO.out hg
          rw [this]
          exact ⟨rfl, fun _ h => by cases h⟩
        · have := rp_yes (no := no) (by have := HXS.out; omega) HM.out HO.out hg
          rw [this]
          exact ⟨rfl, fun D h => by cases h; rfl⟩
      clear p0 p1 u0 u1 t0 t1 hb4 PK B3 BR3 BP3 O3 hV3
      go_wp2
      refine retG2 Tryd.results42 rfl rfl rfl (put2_box BR4.out _ _) ⟨?_, put2_below B4.out (Nat.le_refl _) _ _⟩
      rw [ES.out.1]
      have := O4.out.put2 (r := w.heap.size) (.inl (by omega)) (.int .i64 (lsnZ x)) (.slice a2 ST.length c2)
      exact ⟨⟨lsnZ x, a2, ST.length, c2⟩, rfl, ⟨lsnZ x, ST⟩, this.wide (B' := w.heap.size) (by omega), ES.out.2⟩

end Go.Proofs.YtcokbogicbdoaaaDoor.G
