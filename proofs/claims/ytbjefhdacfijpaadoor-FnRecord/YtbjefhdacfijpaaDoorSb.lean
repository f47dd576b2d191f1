/-
  The bytes of a record: the walks of the specification's l04Bytes and RecordBytes.
-/
import Derived.Test.YtbjefhdacfijpaaDoorRj
import Derived.Test.YtbjefhdacfijpaaDoorRn
import Derived.Test.YtbjefhdacfijpaaDoorSe
namespace Go.Proofs.YtbjefhdacfijpaaDoor
open Go Go.RowKit
attribute [local go_sem ↓] Go.wp_at_zero Go.wp_at_succ


set_option maxRecDepth 100000 in
set_option maxHeartbeats 4000000 in
theorem c_l04B (e l t k p n g s : Int) (b a : ByteArray) (w : World) (hok : okLR ⟨e, l, t, k, p, n, g, s, b, a⟩ = true) :
    Calls Tryd.prog 66 #[.agg #[.int .i64 e, .int .i64 l, .int .i64 t, .int .i64 k, .int .i64 p, .int .i64 n, .int .i64 g, .int .i64 s, .string b, .string a]] w fun e' w' => (∃ ha hc, e' = .returned (.slice ha (rbR ⟨e, l, t, k, p, n, g, s, b, a⟩).length hc) ∧ w'.ownsRow w.heap.size 5 1 (.slice ha (rbR ⟨e, l, t, k, p, n, g, s, b, a⟩).length hc) (rbR ⟨e, l, t, k, p, n, g, s, b, a⟩).length ((rbR ⟨e, l, t, k, p, n, g, s, b, a⟩).map (Value.int .u8))) ∧ Below w.heap.size w w' := by
  obtain ⟨f0, f1, f2, f3, f4, f5, f6, f7, f8, f9⟩ := lr_fit hok
  have HO : Hid (okLR ⟨e, l, t, k, p, n, g, s, b, a⟩ = true) := hok
  have E : Hid (rbC ⟨e, l, t, k, p, n, g, s, b, a⟩ = 0 ∧ rbR ⟨e, l, t, k, p, n, g, s, b, a⟩ = rbZ ⟨e, l, t, k, p, n, g, s, b, a⟩ ++ sumZ (Crc.crc (rbZ ⟨e, l, t, k, p, n, g, s, b, a⟩) : Nat)) := rb0 hok
  clear hok
  obtain ⟨V, hV⟩ : ∃ V, w.alloc (.cells #[.int .i64 e, .int .i64 l, .int .i64 t, .int .i64 k, .int .i64 p, .int .i64 n, .int .i64 g, .int .i64 s, .string b, .string a] 28) = V := ⟨_, rfl⟩
  have HB : Hid (Below w.heap.size w V) := by unfold Hid; rw [← hV]; exact (Below.refl _ _).alloc (Nat.le_refl _) _
  have BX : Hid (Box V w.heap.size 28 #[.int .i64 e, .int .i64 l, .int .i64 t, .int .i64 k, .int .i64 p, .int .i64 n, .int .i64 g, .int .i64 s, .string b, .string a]) := by unfold Hid; rw [← hV]; exact Box.new _ _ _
  obtain ⟨v0, v1, v2, v3, v4, v5, v6, v7, v8, v9⟩ := box10 BX.out
  have we : IntKind.u8.wrap e = e := by rw [IntKind.wrap_u8']; omega
  have wl : IntKind.u8.wrap l = l := by rw [IntKind.wrap_u8']; omega
  have wt : IntKind.u8.wrap t = t := by rw [IntKind.wrap_u8']; omega
  have wk : IntKind.u8.wrap k = k := by rw [IntKind.wrap_u8']; omega
  have wp : IntKind.u8.wrap p = p := by rw [IntKind.wrap_u8']; omega
  have wn : IntKind.u8.wrap n = n := by rw [IntKind.wrap_u8']; omega
  have wg : IntKind.u8.wrap g = g := by rw [IntKind.wrap_u8']; omega
  have ws : IntKind.u8.wrap s = s := by rw [IntKind.wrap_u8']; omega
  obtain ⟨i0, g9, g90, g91, g92⟩ := info_parts infoB
  have hi : Hid (Tryd.prog.info? 5 = some i0) := g9
  have hz0 : Hid (i0.zero = some (.int .u8 0)) := g90
  have hz1 : Hid (i0.size = 1) := g91
  have hz2 : Hid (i0.bytes = 1) := g92
  clear g9 g90 g91 g92
  obtain ⟨V1, hV1⟩ : ∃ W, V.alloc (.cells #[.int .u8 108, .int .u8 e, .int .u8 l, .int .u8 t, .int .u8 k, .int .u8 p, .int .u8 n, .int .u8 g, .int .u8 s] 5) = W := ⟨_, rfl⟩
  have hb1 : Below V.heap.size V V1 := by rw [← hV1]; exact (Below.refl _ _).alloc (Nat.le_refl _) _
  have O1 : V1.ownsRow w.heap.size 5 1 (.slice (some ⟨V.heap.size, 0, none⟩) 9 9) 9 [.int .u8 108, .int .u8 e, .int .u8 l, .int .u8 t, .int .u8 k, .int .u8 p, .int .u8 n, .int .u8 g, .int .u8 s] := by rw [← hV1]; exact World.ownsRow_lit V #[.int .u8 108, .int .u8 e, .int .u8 l, .int .u8 t, .int .u8 k, .int .u8 p, .int .u8 n, .int .u8 g, .int .u8 s] 9 HB.out.size (by unfold maxLen; omega) rfl
  have X1 := BX.out.belowS hb1
  have u8 : V1.cell? ⟨w.heap.size, 8, none⟩ = some (.string b) := X1.cell 8
  have u9 : V1.cell? ⟨w.heap.size, 9, none⟩ = some (.string a) := X1.cell 9
  have B1 : Hid (Below w.heap.size w V1) := HB.out.trans (hb1.mono HB.out.size)
  obtain ⟨V2, hV2⟩ : ∃ W, V1.alloc (.cells #[.string b, .string a] 9) = W := ⟨_, rfl⟩
  have hb2 : Below V1.heap.size V1 V2 := by rw [← hV2]; exact (Below.refl _ _).alloc (Nat.le_refl _) _
  have B2 : Hid (Below w.heap.size w V2) := B1.out.trans (hb2.mono B1.out.size)
  have O2 : Hid (V2.ownsRow w.heap.size 5 1 (.slice (some ⟨V.heap.size, 0, none⟩) 9 9) 9 [.int .u8 108, .int .u8 e, .int .u8 l, .int .u8 t, .int .u8 k, .int .u8 p, .int .u8 n, .int .u8 g, .int .u8 s]) := own_below O1 hb2
  have R2 : RdV V2 (some ⟨V1.heap.size, 0, none⟩) 2 ([b, a].map Value.string) := by
    rw [← hV2]
    exact RdV.own (World.ownsRow_lit (base := 0) (e := 9) V1 #[.string b, .string a] 2 (Nat.zero_le _) (by unfold maxLen; omega) rfl)
  obtain ⟨Z, hZ⟩ : ∃ Z, Z = fbZ [b, a] 2 2 := ⟨_, rfl⟩
  have hzl : Z.length ≤ 300 := by rw [hZ, fb2_len]; omega
  have hz1l : 1 ≤ Z.length := by rw [hZ, fb2_len]; omega
  have HZ : Hid (Z = fbZ [b, a] 2 2) := hZ
  have CF : Hid (Calls Tryd.prog 139 #[.slice (some ⟨V1.heap.size, 0, none⟩) 2 2] V2 fun e' w' => ∃ ga gc, e' = .returned (.slice (some ⟨ga, 0, none⟩) Z.length gc) ∧ w'.ownsRow V2.heap.size 5 1 (.slice (some ⟨ga, 0, none⟩) Z.length gc) Z.length (Z.map (Value.int .u8)) ∧ Below V2.heap.size V2 w') := by
    rw [hZ]
    refine (c_lF _ 2 2 [b, a] V2 R2 (by omega) (ok2 (by omega) (by omega))).mono ?_
    rintro e' w' ⟨v, rfl, ho, hb⟩
    obtain ⟨g', cap, rfl⟩ : ∃ g' cap, v = .slice (some ⟨g', 0, none⟩) (fbZ [b, a] 2 2).length cap := by
      rcases own_form ho with ⟨_, h⟩ | ⟨g', cap, hv, _⟩
      · simp [fbZ] at h
      · exact ⟨g', cap, hv⟩
    exact ⟨g', cap, rfl, ho, hb⟩
  have SEA : Hid (∀ (W : World) (g' cap : Nat), w.heap.size ≤ W.heap.size → W.ownsRow w.heap.size 5 1 (.slice (some ⟨g', 0, none⟩) (9 + Z.length) cap) (9 + Z.length) ((rbZ ⟨e, l, t, k, p, n, g, s, b, a⟩).map (Value.int .u8)) → Calls Tryd.prog 138 #[.slice (some ⟨g', 0, none⟩) (9 + Z.length) cap] W fun e' w' => (∃ a' c', e' = .returned (.slice a' (rbR ⟨e, l, t, k, p, n, g, s, b, a⟩).length c') ∧ w'.ownsRow w.heap.size 5 1 (.slice a' (rbR ⟨e, l, t, k, p, n, g, s, b, a⟩).length c') (rbR ⟨e, l, t, k, p, n, g, s, b, a⟩).length ((rbR ⟨e, l, t, k, p, n, g, s, b, a⟩).map (Value.int .u8))) ∧ Below w.heap.size W w') := fun W g' cap hW ho => by
    have hl : (rbR ⟨e, l, t, k, p, n, g, s, b, a⟩).length = 9 + Z.length + 4 := by rw [rbR_len HO.out, HZ.out, fb2_len]; omega
    rw [hl, E.out.2]
    exact c_sealed w.heap.size g' _ cap (rbZ ⟨e, l, t, k, p, n, g, s, b, a⟩) W ho hW (rb_bytes HO.out) (by omega) _ rfl
  clear hZ R2 O1 X1 hb1 hb2 BX HB
  go_enter Tryd.func66, Tryd.ntmps66
  go_wp2_with fail
  refine CF.out.mono ?_
  rintro e' w3 ⟨ga, gc, rfl, o3, hb⟩
  have B3 : Hid (Below w.heap.size w w3) := B2.out.trans (hb.mono B2.out.size)
  have P3 : Hid (w3.ownsRow w.heap.size 5 1 (.slice (some ⟨V.heap.size, 0, none⟩) 9 9) 9 [.int .u8 108, .int .u8 e, .int .u8 l, .int .u8 t, .int .u8 k, .int .u8 p, .int .u8 n, .int .u8 g, .int .u8 s]) := own_below O2.out hb
  have O3 : Hid (w3.ownsRow V2.heap.size 5 1 (.slice (some ⟨ga, 0, none⟩) Z.length gc) Z.length (Z.map (Value.int .u8))) := o3
  have gV : w.heap.size ≤ V.heap.size := (P3.out.lt _ rfl).1
  clear hb o3 v0 v1 v2 v3 v4 v5 v6 v7 v8 v9 u8 u9 hV hV1 hV2 CF O2 B2 B1
  go_wp2_with (
    at_builtin; refine app_any _ rfl (.tmp 29) (.tmp 35) 25 rfl w.heap.size 5 i0 (.int .u8 0) 1 1 Tryd.underlying25 hi.out hz0.out hz1.out hz2.out rfl (by omega) (.slice (some ⟨V.heap.size, 0, none⟩) 9 9) 9 [.int .u8 108, .int .u8 e, .int .u8 l, .int .u8 t, .int .u8 k, .int .u8 p, .int .u8 n, .int .u8 g, .int .u8 s] rfl P3.out (some ⟨ga, 0, none⟩) Z.length gc (Z.map (Value.int .u8)) rfl (fun h => by cases h) (by simp) (fun ad e => src1 (e ▸ (RdV.own O3.out))) (map_one _ (fun _ => rfl) _) (by unfold maxLen; omega) (by omega) B3.out.size ?_
    intro a4 c4 w4 ho hg0 hk0
    have hg : w3.grownBy w4 (some V.heap.size) := hg0
    have B4 : Hid (Below w.heap.size w w4) := B3.out.grown hg B3.out.size (fun k h => by cases h; exact gV)
    have eZ : ([.int .u8 108, .int .u8 e, .int .u8 l, .int .u8 t, .int .u8 k, .int .u8 p, .int .u8 n, .int .u8 g, .int .u8 s] : List Value) ++ Z.map (Value.int .u8) = (rbZ ⟨e, l, t, k, p, n, g, s, b, a⟩).map (Value.int .u8) := by unfold rbZ; rw [HZ.out, List.map_append]; rfl
    rw [eZ] at ho
    have O4 : Hid (w4.ownsRow w.heap.size 5 1 (.slice a4 (9 + Z.length) c4) (9 + Z.length) ((rbZ ⟨e, l, t, k, p, n, g, s, b, a⟩).map (Value.int .u8))) := ho
    obtain ⟨g4, rfl⟩ : ∃ g, a4 = some ⟨g, 0, none⟩ := by
      rcases own_form ho with ⟨hv, h⟩ | ⟨g, cap, hv, _⟩
      · omega
      · cases hv; exact ⟨g, rfl⟩
    clear ho hg0 hk0 hg eZ P3 O3 B3)
  refine (SEA.out w4 g4 c4 B4.out.size O4.out).mono ?_
  rintro e' w5 ⟨⟨a5, c5, rfl, o5⟩, hb⟩
  have B5 : Hid (Below w.heap.size w w5) := B4.out.trans hb
  have O5 : Hid (w5.ownsRow w.heap.size 5 1 (.slice a5 (rbR ⟨e, l, t, k, p, n, g, s, b, a⟩).length c5) (rbR ⟨e, l, t, k, p, n, g, s, b, a⟩).length ((rbR ⟨e, l, t, k, p, n, g, s, b, a⟩).map (Value.int .u8))) := o5
  clear hb o5 SEA E O4 B4
  go_wp2
  go_ret
  exact ⟨⟨a5, c5, rfl, O5.out⟩, B5.out⟩
set_option maxRecDepth 100000 in
set_option maxHeartbeats 4000000 in
theorem c_specRB (e l t k p n g s : Int) (b a : ByteArray) (w : World) (hbs : b.size ≤ 1048576) (has : a.size ≤ 1048576) :
    Calls Tryd.prog 12 #[.agg #[.int .i64 e, .int .i64 l, .int .i64 t, .int .i64 k, .int .i64 p, .int .i64 n, .int .i64 g, .int .i64 s, .string b, .string a]] w fun e' w' => (∃ ha hc, e' = .returned (.tuple #[.slice ha (rbR ⟨e, l, t, k, p, n, g, s, b, a⟩).length hc, .int .i64 (rbC ⟨e, l, t, k, p, n, g, s, b, a⟩)]) ∧ w'.ownsRow w.heap.size 5 1 (.slice ha (rbR ⟨e, l, t, k, p, n, g, s, b, a⟩).length hc) (rbR ⟨e, l, t, k, p, n, g, s, b, a⟩).length ((rbR ⟨e, l, t, k, p, n, g, s, b, a⟩).map (Value.int .u8))) ∧ Below w.heap.size w w' := by
  have CO : Hid (∀ W, Calls Tryd.prog 65 #[.agg #[.int .i64 e, .int .i64 l, .int .i64 t, .int .i64 k, .int .i64 p, .int .i64 n, .int .i64 g, .int .i64 s, .string b, .string a]] W fun e' w' => e' = .returned (.bool (okLR ⟨e, l, t, k, p, n, g, s, b, a⟩)) ∧ Below W.heap.size W w') := fun W => by rw [← okLS_eq]; exact c_specLR e l t k p n g s b a W hbs has
  obtain ⟨V, hV⟩ : ∃ V, w.alloc (.cells #[.int .i64 e, .int .i64 l, .int .i64 t, .int .i64 k, .int .i64 p, .int .i64 n, .int .i64 g, .int .i64 s, .string b, .string a] 28) = V := ⟨_, rfl⟩
  have HB : Hid (Below w.heap.size w V) := by unfold Hid; rw [← hV]; exact (Below.refl _ _).alloc (Nat.le_refl _) _
  have BX : Hid (Box V w.heap.size 28 #[.int .i64 e, .int .i64 l, .int .i64 t, .int .i64 k, .int .i64 p, .int .i64 n, .int .i64 g, .int .i64 s, .string b, .string a]) := by unfold Hid; rw [← hV]; exact Box.new _ _ _
  obtain ⟨v0, v1, v2, v3, v4, v5, v6, v7, v8, v9⟩ := box10 BX.out
  go_enter Tryd.func12, Tryd.ntmps12
  go_wp2_with fail
  refine (CO.out V).mono ?_
  rintro e' w1 ⟨rfl, hb⟩
  have B1 : Hid (Below w.heap.size w w1) := HB.out.trans (hb.mono HB.out.size)
  have X1 : Hid (Box w1 w.heap.size 28 #[.int .i64 e, .int .i64 l, .int .i64 t, .int .i64 k, .int .i64 p, .int .i64 n, .int .i64 g, .int .i64 s, .string b, .string a]) := BX.out.belowS hb
  clear hb hV HB BX v0 v1 v2 v3 v4 v5 v6 v7 v8 v9 CO
  obtain ⟨v0, v1, v2, v3, v4, v5, v6, v7, v8, v9⟩ := box10 X1.out
  cases hok : okLR ⟨e, l, t, k, p, n, g, s, b, a⟩
  · have E : Hid (rbC ⟨e, l, t, k, p, n, g, s, b, a⟩ = 1 ∧ rbR ⟨e, l, t, k, p, n, g, s, b, a⟩ = []) := rb1 hok
    clear hok
    go_wp2
    go_ret2
    rw [E.out.1, E.out.2]
    exact ⟨⟨_, 0, rfl, World.ownsRow_lit w1 #[] 0 B1.out.size (Nat.zero_le _) rfl⟩, B1.out.alloc B1.out.size _⟩
  have E : Hid (rbC ⟨e, l, t, k, p, n, g, s, b, a⟩ = 0) := (rb0 hok).1
  have CB := c_l04B e l t k p n g s b a w1 hok
  clear hok
  go_wp2_with fail
  refine CB.mono ?_
  rintro e' w2 ⟨⟨a2, c2, rfl, o2⟩, hb⟩
  have B2 : Hid (Below w.heap.size w w2) := B1.out.trans (hb.mono B1.out.size)
  have O2 : Hid (w2.ownsRow w.heap.size 5 1 (.slice a2 (rbR ⟨e, l, t, k, p, n, g, s, b, a⟩).length c2) (rbR ⟨e, l, t, k, p, n, g, s, b, a⟩).length ((rbR ⟨e, l, t, k, p, n, g, s, b, a⟩).map (Value.int .u8))) := o2.down B1.out.size
  clear hb o2 v0 v1 v2 v3 v4 v5 v6 v7 v8 v9 CB
  go_wp2
  go_ret2
  rw [E.out]
  exact ⟨⟨a2, c2, rfl, O2.out⟩, B2.out⟩

end Go.Proofs.YtbjefhdacfijpaaDoor
