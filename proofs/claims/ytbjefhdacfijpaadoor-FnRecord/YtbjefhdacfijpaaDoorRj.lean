/-
  The bytes of a record: the walk of the program's RecordBytes.
-/
import Derived.Test.YtbjefhdacfijpaaDoorRb
namespace Go.Proofs.YtbjefhdacfijpaaDoor
open Go Go.RowKit
attribute [local go_sem ↓] Go.wp_at_zero Go.wp_at_succ


set_option maxRecDepth 100000 in
set_option maxHeartbeats 4000000 in
theorem c_implRB (e l t k p n g s : Int) (b a : ByteArray) (w : World) (hbs : b.size ≤ 1048576) (has : a.size ≤ 1048576) (ht : TabH w) :
    Calls Tryd.prog 14 #[.agg #[.int .i64 e, .int .i64 l, .int .i64 t, .int .i64 k, .int .i64 p, .int .i64 n, .int .i64 g, .int .i64 s, .string b, .string a]] w fun e' w' => (∃ ha hc, e' = .returned (.tuple #[.slice ha (rbR ⟨e, l, t, k, p, n, g, s, b, a⟩).length hc, .int .i64 (rbC ⟨e, l, t, k, p, n, g, s, b, a⟩)]) ∧ w'.ownsRow w.heap.size 5 1 (.slice ha (rbR ⟨e, l, t, k, p, n, g, s, b, a⟩).length hc) (rbR ⟨e, l, t, k, p, n, g, s, b, a⟩).length ((rbR ⟨e, l, t, k, p, n, g, s, b, a⟩).map (Value.int .u8))) ∧ Below w.heap.size w w' := by
  have CO : Hid (∀ W, Calls Tryd.prog 33 #[.agg #[.int .i64 e, .int .i64 l, .int .i64 t, .int .i64 k, .int .i64 p, .int .i64 n, .int .i64 g, .int .i64 s, .string b, .string a]] W fun e' w' => e' = .returned (.bool (okLR ⟨e, l, t, k, p, n, g, s, b, a⟩)) ∧ Below W.heap.size W w') := fun W => c_implLR e l t k p n g s b a W (by unfold maxLen; omega) (by unfold maxLen; omega)
  have HT : Hid (TabH w) := ht
  clear ht
  obtain ⟨V, hV⟩ : ∃ V, w.alloc (.cells #[.int .i64 e, .int .i64 l, .int .i64 t, .int .i64 k, .int .i64 p, .int .i64 n, .int .i64 g, .int .i64 s, .string b, .string a] 28) = V := ⟨_, rfl⟩
  have HB : Hid (Below w.heap.size w V) := by unfold Hid; rw [← hV]; exact (Below.refl _ _).alloc (Nat.le_refl _) _
  have BX : Hid (Box V w.heap.size 28 #[.int .i64 e, .int .i64 l, .int .i64 t, .int .i64 k, .int .i64 p, .int .i64 n, .int .i64 g, .int .i64 s, .string b, .string a]) := by unfold Hid; rw [← hV]; exact Box.new _ _ _
  obtain ⟨v0, v1, v2, v3, v4, v5, v6, v7, v8, v9⟩ := box10 BX.out
  go_enter Tryd.func14, Tryd.ntmps14
  go_wp2_with fail
  refine (CO.out V).mono ?_
  rintro e' w1 ⟨rfl, hb⟩
  have B1 : Hid (Below w.heap.size w w1) := HB.out.trans (hb.mono HB.out.size)
  have X1 : Hid (Box w1 w.heap.size 28 #[.int .i64 e, .int .i64 l, .int .i64 t, .int .i64 k, .int .i64 p, .int .i64 n, .int .i64 g, .int .i64 s, .string b, .string a]) := BX.out.belowS hb
  clear hb hV HB BX v0 v1 v2 v3 v4 v5 v6 v7 v8 v9 CO
  obtain ⟨v0, v1, v2, v3, v4, v5, v6, v7, v8, v9⟩ := box10 X1.out
  cases hok : okLR ⟨e, l, t, k, p, n, g, s, b, a⟩
  · have E : Hid (rbC ⟨e, l, t, k, p, n, g, s, b, a⟩ = 1 ∧ rbR ⟨e, l, t, k, p, n, g, s, b, a⟩ = []) := rb1 hok
    clear hok
    go_wp2
    go_ret2
    rw [E.out.1, E.out.2]
    exact ⟨⟨none, 0, rfl, World.ownsRow_nil _ _ _ _⟩, B1.out⟩
  have HO : Hid (okLR ⟨e, l, t, k, p, n, g, s, b, a⟩ = true) := hok
  obtain ⟨f0, f1, f2, f3, f4, f5, f6, f7, f8, f9⟩ := lr_fit hok
  clear hok
  have E : Hid (rbC ⟨e, l, t, k, p, n, g, s, b, a⟩ = 0 ∧ rbR ⟨e, l, t, k, p, n, g, s, b, a⟩ = rbZ ⟨e, l, t, k, p, n, g, s, b, a⟩ ++ sumZ (Crc.crc (rbZ ⟨e, l, t, k, p, n, g, s, b, a⟩) : Nat)) := rb0 HO.out
  have EF : Hid (errF [b, a] 2 = 0 ∧ resF [b, a] 2 = fbZ [b, a] 2 2) := err0 (by omega) (ok2 (by omega) (by omega))
  obtain ⟨V2, hV2⟩ : ∃ W, w1.alloc (.cells #[.string b, .string a] 9) = W := ⟨_, rfl⟩
  have hb2 : Below w1.heap.size w1 V2 := by rw [← hV2]; exact (Below.refl _ _).alloc (Nat.le_refl _) _
  have R2 : RdV V2 (some ⟨w1.heap.size, 0, none⟩) 2 ([b, a].map Value.string) := by
    rw [← hV2]
    exact RdV.own (World.ownsRow_lit (base := 0) (e := 9) w1 #[.string b, .string a] 2 (Nat.zero_le _) (by unfold maxLen; omega) rfl)
  have CF : Hid (Calls Tryd.prog 67 #[.slice (some ⟨w1.heap.size, 0, none⟩) 2 2] V2 (AnsF V2 [b, a] 2)) := c_implF _ 2 2 [b, a] V2 R2 (by omega) (by intro x hx; simp at hx; rcases hx with rfl | rfl <;> omega)
  have B2 : Hid (Below w.heap.size w V2) := B1.out.trans (hb2.mono B1.out.size)
  have X2 : Hid (Box V2 w.heap.size 28 #[.int .i64 e, .int .i64 l, .int .i64 t, .int .i64 k, .int .i64 p, .int .i64 n, .int .i64 g, .int .i64 s, .string b, .string a]) := X1.out.belowS hb2
  clear R2 hb2
  go_wp2_with fail
  refine CF.out.mono ?_
  rintro e' w2 ⟨fa, fc, rfl, o2, hb⟩
  rw [EF.out.2] at o2
  rw [EF.out.1, EF.out.2]
  have B3 : Hid (Below w.heap.size w w2) := B2.out.trans (hb.mono B2.out.size)
  have X3 : Hid (Box w2 w.heap.size 28 #[.int .i64 e, .int .i64 l, .int .i64 t, .int .i64 k, .int .i64 p, .int .i64 n, .int .i64 g, .int .i64 s, .string b, .string a]) := X2.out.belowS hb
  obtain ⟨Z, hZ⟩ : ∃ Z, Z = fbZ [b, a] 2 2 := ⟨_, rfl⟩
  have hzl : Z.length ≤ 300 := by rw [hZ, fb2_len]; omega
  rw [← hZ] at o2
  rw [← hZ]
  have O2 : Hid (w2.ownsRow V2.heap.size 5 1 (.slice fa Z.length fc) Z.length (Z.map (Value.int .u8))) := o2
  have HZ : Hid (Z = fbZ [b, a] 2 2) := hZ
  clear hb o2 hZ v0 v1 v2 v3 v4 v5 v6 v7 v8 v9 X1 X2 B1 B2 CF hV2
  obtain ⟨v0, v1, v2, v3, v4, v5, v6, v7, v8, v9⟩ := box10 X3.out
  have we : IntKind.u8.wrap e = e := by rw [IntKind.wrap_u8']; omega
  have wl : IntKind.u8.wrap l = l := by rw [IntKind.wrap_u8']; omega
  have wt : IntKind.u8.wrap t = t := by rw [IntKind.wrap_u8']; omega
  have wk : IntKind.u8.wrap k = k := by rw [IntKind.wrap_u8']; omega
  have wp : IntKind.u8.wrap p = p := by rw [IntKind.wrap_u8']; omega
  have wn : IntKind.u8.wrap n = n := by rw [IntKind.wrap_u8']; omega
  have wg : IntKind.u8.wrap g = g := by rw [IntKind.wrap_u8']; omega
  have ws : IntKind.u8.wrap s = s := by rw [IntKind.wrap_u8']; omega
  obtain ⟨i0, g9, g90, g91, g92⟩ := info_parts infoB
  have hi : Hid (Tryd.prog.info? 5 = some i0) := g9
  have hz0 : Hid (i0.zero = some (.int .u8 0)) := g90
  have hz1 : Hid (i0.size = 1) := g91
  have hz2 : Hid (i0.bytes = 1) := g92
  clear g9 g90 g91 g92
  have SL : Hid (∀ (W : World) (g' cap : Nat), Below w.heap.size w W → W.ownsRow w.heap.size 5 1 (.slice (some ⟨g', 0, none⟩) (9 + Z.length) cap) (9 + Z.length) ((rbZ ⟨e, l, t, k, p, n, g, s, b, a⟩).map (Value.int .u8)) → Calls Tryd.prog 68 #[.slice (some ⟨g', 0, none⟩) (9 + Z.length) cap] W fun e' w' => (∃ a' c', e' = .returned (.slice a' (rbR ⟨e, l, t, k, p, n, g, s, b, a⟩).length c') ∧ w'.ownsRow W.heap.size 5 1 (.slice a' (rbR ⟨e, l, t, k, p, n, g, s, b, a⟩).length c') (rbR ⟨e, l, t, k, p, n, g, s, b, a⟩).length ((rbR ⟨e, l, t, k, p, n, g, s, b, a⟩).map (Value.int .u8))) ∧ Below W.heap.size W w') := fun W g' cap hW ho => by
    have hc := own_capB ho
    have hl : (rbR ⟨e, l, t, k, p, n, g, s, b, a⟩).length = 9 + Z.length + 4 := by rw [rbR_len HO.out, HZ.out, fb2_len]; omega
    rw [hl, E.out.2]
    exact c_seal g' 0 (9 + Z.length) cap (rbZ ⟨e, l, t, k, p, n, g, s, b, a⟩) W (RdV.own ho) (rb_bytes HO.out) (by omega) hc (HT.out.below hW) _ rfl
  go_wp2_with (
    at_builtin; refine app_any _ rfl (.tmp 47) (.tmp 48) 25 rfl w.heap.size 5 i0 (.int .u8 0) 1 1 Tryd.underlying25 hi.out hz0.out hz1.out hz2.out rfl (by omega) (.slice (some ⟨w2.heap.size, 0, none⟩) 9 9) 9 [.int .u8 108, .int .u8 e, .int .u8 l, .int .u8 t, .int .u8 k, .int .u8 p, .int .u8 n, .int .u8 g, .int .u8 s] rfl (World.ownsRow_lit w2 #[.int .u8 108, .int .u8 e, .int .u8 l, .int .u8 t, .int .u8 k, .int .u8 p, .int .u8 n, .int .u8 g, .int .u8 s] 9 B3.out.size (by unfold maxLen; omega) rfl) fa Z.length fc (Z.map (Value.int .u8)) rfl (rdV_none (RdV.own O2.out) (own_src O2.out)) (by simp) (fun ad e => src1 (e ▸ ((RdV.own O2.out).below ((Below.refl _ _).alloc (Nat.le_refl _) _)))) (map_one _ (fun _ => rfl) _) (by unfold maxLen; omega) (by omega) (by have := B3.out.size; simp; omega) ?_
    intro a3 c3 w3 ho hg0 hk0
    have hg : (w2.alloc (.cells #[.int .u8 108, .int .u8 e, .int .u8 l, .int .u8 t, .int .u8 k, .int .u8 p, .int .u8 n, .int .u8 g, .int .u8 s] 5)).grownBy w3 (some w2.heap.size) := hg0
    have B4 : Hid (Below w.heap.size w w3) := (B3.out.alloc B3.out.size _).grown hg (by simp; have := B3.out.size; omega) (fun k h => by cases h; exact B3.out.size)
    have eZ : ([.int .u8 108, .int .u8 e, .int .u8 l, .int .u8 t, .int .u8 k, .int .u8 p, .int .u8 n, .int .u8 g, .int .u8 s] : List Value) ++ Z.map (Value.int .u8) = (rbZ ⟨e, l, t, k, p, n, g, s, b, a⟩).map (Value.int .u8) := by unfold rbZ; rw [HZ.out, List.map_append]; rfl
    rw [eZ] at ho
    have O3 : Hid (w3.ownsRow w.heap.size 5 1 (.slice a3 (9 + Z.length) c3) (9 + Z.length) ((rbZ ⟨e, l, t, k, p, n, g, s, b, a⟩).map (Value.int .u8))) := ho
    obtain ⟨g3, rfl⟩ : ∃ g, a3 = some ⟨g, 0, none⟩ := by
      rcases own_form ho with ⟨hv, h⟩ | ⟨g, cap, hv, _⟩
      · omega
      · cases hv; exact ⟨g, rfl⟩
    have q23 : w.heap.size ≤ w3.heap.size := B4.out.size
    clear ho hg0 hk0 hg eZ v0 v1 v2 v3 v4 v5 v6 v7 v8 v9 O2 B3 X3)
  refine (SL.out w3 g3 c3 B4.out O3.out).mono ?_
  rintro e' w4 ⟨⟨a4, c4, rfl, o4⟩, hb⟩
  have B5 : Hid (Below w.heap.size w w4) := B4.out.trans (hb.mono B4.out.size)
  have O4 : Hid (w4.ownsRow w.heap.size 5 1 (.slice a4 (rbR ⟨e, l, t, k, p, n, g, s, b, a⟩).length c4) (rbR ⟨e, l, t, k, p, n, g, s, b, a⟩).length ((rbR ⟨e, l, t, k, p, n, g, s, b, a⟩).map (Value.int .u8))) := o4.down q23
  have EC : Hid (rbC ⟨e, l, t, k, p, n, g, s, b, a⟩ = 0) := E.out.1
  clear hb o4 SL E EF
  go_wp2
  go_ret2
  rw [EC.out]
  exact ⟨⟨a4, c4, rfl, O4.out⟩, B5.out⟩

end Go.Proofs.YtbjefhdacfijpaaDoor
