/-
  The bytes of a page: the specification's own.
-/
import Derived.Test.YtcokbogicbdoaaaDoorZzaf
import Derived.Test.YtcokbogicbdoaaaDoorFbq
import Derived.Test.YtcokbogicbdoaaaDoorGkq
namespace Go.Proofs.YtcokbogicbdoaaaDoor.G
open Go Go.RowKit
attribute [local go_sem ↓] Go.wp_at_zero Go.wp_at_succ


def pbZ (D : DG) (no : Int) : List Int := [112, no, D.L / 256, D.L % 256] ++ fbZ D.S 4 4
theorem okF_page {D : DG} (h : okG D = true) : okF D.S 4 = true := by
  unfold okF
  rw [List.all_eq_true]
  exact fun s hs => decide_eq_true (by have := (okG_parts h).2.2.2 s (List.mem_of_mem_take hs); omega)
theorem fb_len {D : DG} (h : okG D = true) : (fbZ D.S 4 4).length ≤ 1025 := by
  have := fbZ_len (ss := D.S) (n := 4) 4 (by rw [(okG_parts h).2.2.1]; omega) (okF_page h)
  omega
theorem fb_bytes {D : DG} (h : okG D = true) : ∀ z ∈ fbZ D.S 4 4, 0 ≤ z ∧ z < 256 := by
  intro z hz
  unfold fbZ at hz
  rcases List.mem_cons.1 hz with rfl | hz
  · omega
  · obtain ⟨l, hl, hzl⟩ := List.mem_flatten.1 hz
    obtain ⟨s, hs', rfl⟩ := List.mem_map.1 hl
    rcases List.mem_cons.1 hzl with rfl | hz'
    · have := (okG_parts h).2.2.2 s (List.mem_of_mem_take hs'); omega
    · obtain ⟨b, _, rfl⟩ := List.mem_map.1 hz'
      have := b.toNat_lt
      omega
theorem pb_bytes {D : DG} {no : Int} (h : okG D = true) (h1 : 0 ≤ no ∧ no ≤ 255) : ∀ z ∈ pbZ D no, 0 ≤ z ∧ z < 256 := by
  intro z hz
  have hp := okG_parts h
  unfold pbZ at hz
  rcases List.mem_append.1 hz with hz | hz
  · simp at hz
    rcases hz with rfl | rfl | rfl | rfl <;> omega
  · exact fb_bytes h z hz
theorem pb_len {D : DG} {no : Int} : (pbZ D no).length = 4 + (fbZ D.S 4 4).length := by unfold pbZ; simp; omega
theorem strZ_inj {a b : ByteArray} (h : strZ a = strZ b) : a = b := by
  unfold strZ at h
  have e : a.data.toList = b.data.toList := by
    have := congrArg (List.map fun z : Int => UInt8.ofNat z.toNat) h
    simpa [List.map_map, Function.comp_def] using this
  cases a; cases b
  congr 1
  exact Array.toList_inj.1 e
def encF (s : ByteArray) : List Int := (s.size : Int) :: strZ s
theorem enc_inj : ∀ (ss tt : List ByteArray) (u v : List Int), ss.length = tt.length → (ss.map encF).flatten ++ u = (tt.map encF).flatten ++ v → ss = tt
  | [], [], _, _, _, _ => rfl
  | s :: ss, t :: tt, u, v, hl, h => by
    simp only [List.map_cons, List.flatten_cons, List.append_assoc] at h
    unfold encF at h
    simp only [List.cons_append, List.cons.injEq] at h
    obtain ⟨h1, h2⟩ := h
    have hs : (strZ s).length = (strZ t).length := by rw [strZ_len, strZ_len]; omega
    have := List.append_inj h2 hs
    obtain rfl := strZ_inj this.1
    rw [enc_inj ss tt u v (by simpa using hl) this.2]
theorem pb_inj {D E : DG} {no : Int} {u v : List Int} (hD : okG D = true) (hE : okG E = true) (h : pbZ D no ++ u = pbZ E no ++ v) : D = E := by
  have pD := okG_parts hD
  have pE := okG_parts hE
  unfold pbZ fbZ at h
  simp only [List.cons_append, List.nil_append, List.cons.injEq, true_and] at h
  obtain ⟨h1, h2, h3⟩ := h
  have e1 : D.L = E.L := by omega
  have e2 := enc_inj (D.S.take 4) (E.S.take 4) u v (by simp [pD.2.2.1, pE.2.2.1]) h3
  rw [List.take_of_length_le (by omega), List.take_of_length_le (by omega)] at e2
  cases D; cases E
  simp only at e1 e2
  rw [e1, e2]
theorem own_lit2 {B : Nat} {w W : World} (hb : Below B w W) (hB : B ≤ w.heap.size) (no : Int) : (W.alloc (.cells #[.int .u8 112, .int .u8 no] 5)).ownsRow B 5 1 (.slice (some ⟨W.heap.size, 0, none⟩) 2 2) 2 [.int .u8 112, .int .u8 no] :=
  World.ownsRow_lit W #[.int .u8 112, .int .u8 no] 2 (Nat.le_trans hB hb.size) (by unfold maxLen; omega) rfl
theorem Below.cellA {w : World} {p : Addr} {v : Value} {o : Obj} (h : w.cell? p = some v) : (w.alloc o).cell? p = some v := by
  have hp : p.block < w.heap.size := World.block_lt_of_cell? w p h
  exact (World.cell?_of_block (Below.heap_alloc w o p.block hp)).trans h
theorem own_litA (V : World) (no : Int) : (V.alloc (.cells #[.int .u8 112, .int .u8 no] 5)).drew.ownsRow V.heap.size 5 1 (.slice (some ⟨V.heap.size, 0, none⟩) 2 2) 2 [.int .u8 112, .int .u8 no] :=
  World.ownsRow_lit V #[.int .u8 112, .int .u8 no] 2 (Nat.le_refl _) (by unfold maxLen; omega) rfl
theorem pb_step {D : DG} {no : Int} : ([.int .u8 112, .int .u8 no] : List Value) ++ (numZ D.L).map (Value.int .u8) = ([112, no, D.L / 256, D.L % 256] : List Int).map (Value.int .u8) := rfl
set_option maxRecDepth 100000 in
set_option maxHeartbeats 8000000 in
theorem c_bytes (h : HG) (D : DG) (no : Int) (w : World) (r : RdG w h D) (hok : okG D = true) (hno : 0 ≤ no ∧ no ≤ 255) (C : Int) (hC : C = (Crc.crc (pbZ D no) : Nat)) :
    Calls Tryd.prog 16 #[.int .i64 no, .agg #[.int .i64 h.l, .slice h.a h.n h.c]] w fun e w' => (∃ a' c', e = .returned (.slice a' (8 + (fbZ D.S 4 4).length) c') ∧ w'.ownsRow w.heap.size 5 1 (.slice a' (8 + (fbZ D.S 4 4).length) c') (8 + (fbZ D.S 4 4).length) ((pbZ D no ++ sumZ C).map (Value.int .u8))) ∧ Below w.heap.size w w' := by
  have hp := okG_parts hok
  have H4 : Hid (D.S.length = 4) := hp.2.2.1
  have hL0 : 0 ≤ D.L := hp.1
  have hL1 : D.L ≤ 1000 := hp.2.1
  have HO : Hid (okG D = true) := hok
  have HC : Hid (C = (Crc.crc (pbZ D no) : Nat)) := hC
  clear hp hok hC
  have k0 := r.len
  obtain ⟨rl, r0⟩ := r
  obtain ⟨l, a, n, c⟩ := h
  simp only at *
  subst k0 rl
  have R0 : Hid (RdV w a D.S.length (D.S.map Value.string)) := r0
  clear r0
  obtain ⟨V, hV⟩ : ∃ V, w.alloc (.cells #[.int .i64 D.L, .slice a D.S.length c] 49) = V := ⟨_, rfl⟩
  have HB : Hid (Below w.heap.size w V) := by unfold Hid; rw [← hV]; exact (Below.refl _ _).alloc (Nat.le_refl _) _
  have BX : Box V w.heap.size 49 #[.int .i64 D.L, .slice a D.S.length c] := by rw [← hV]; exact Box.new _ _ _
  obtain ⟨v0, v1⟩ := box2 BX
  have l0 : w.heap.size < V.heap.size := BX.lt
  obtain ⟨i0, g9, g90, g91, g92⟩ := info_parts infoB
  have hi : Hid (Tryd.prog.info? 5 = some i0) := g9
  have hz0 : Hid (i0.zero = some (.int .u8 0)) := g90
  have hz1 : Hid (i0.size = 1) := g91
  have hz2 : Hid (i0.bytes = 1) := g92
  clear g9 g90 g91 g92
  have NUM : Hid (∀ W, Calls Tryd.prog 44 #[.int .i64 D.L, .int .i64 2] W fun e w' => ∃ g cap, e = .returned (.slice (some ⟨g, 0, none⟩) 2 cap) ∧ w'.ownsRow W.heap.size 5 1 (.slice (some ⟨g, 0, none⟩) 2 cap) 2 ((numZ D.L).map (Value.int .u8)) ∧ Below W.heap.size W w') := fun W => c_num2 D.L W hL0 hL1
  obtain ⟨Z, hZ⟩ : ∃ Z, Z = fbZ D.S 4 4 := ⟨_, rfl⟩
  have hzl : Z.length ≤ 1025 := by rw [hZ]; exact fb_len HO.out
  have FLD : Hid (∀ W, Below w.heap.size w W → Calls Tryd.prog 45 #[.slice a D.S.length c] W fun e w' => ∃ ga gc, e = .returned (.slice (some ⟨ga, 0, none⟩) Z.length gc) ∧ w'.ownsRow W.heap.size 5 1 (.slice (some ⟨ga, 0, none⟩) Z.length gc) Z.length (Z.map (Value.int .u8)) ∧ Below W.heap.size W w') := fun W hW => by
    have h1 : okF D.S D.S.length = true := by rw [H4.out]; exact okF_page HO.out
    have := c_lF a D.S.length c D.S W (R0.out.below hW) (by have := H4.out; omega) h1
    rw [H4.out] at *
    rw [hZ]
    refine this.mono ?_
    rintro e w' ⟨v, rfl, ho, hb⟩
    obtain ⟨g, cap, rfl⟩ : ∃ g cap, v = .slice (some ⟨g, 0, none⟩) (fbZ D.S 4 4).length cap := by
      rcases own_form ho with ⟨_, h⟩ | ⟨g, cap, hv, _⟩
      · simp [fbZ] at h
      · exact ⟨g, cap, hv⟩
    exact ⟨g, cap, rfl, ho, hb⟩
  have hz1' : 1 ≤ Z.length := by rw [hZ]; simp [fbZ]
  have SEA : Hid (∀ (W : World) (g cap : Nat), V.heap.size ≤ W.heap.size → W.ownsRow V.heap.size 5 1 (.slice (some ⟨g, 0, none⟩) (4 + Z.length) cap) (4 + Z.length) ((pbZ D no).map (Value.int .u8)) → Calls Tryd.prog 43 #[.slice (some ⟨g, 0, none⟩) (4 + Z.length) cap] W fun e w' => (∃ a' c', e = .returned (.slice a' (4 + Z.length + 4) c') ∧ w'.ownsRow V.heap.size 5 1 (.slice a' (4 + Z.length + 4) c') (4 + Z.length + 4) ((pbZ D no ++ sumZ C).map (Value.int .u8))) ∧ Below V.heap.size W w') := fun W g cap hW ho => c_sealed V.heap.size g _ cap (pbZ D no) W ho hW (pb_bytes HO.out hno) (by omega) C HC.out
  have HP : Hid (([112, no, D.L / 256, D.L % 256] : List Int).map (Value.int .u8) ++ Z.map (Value.int .u8) = (pbZ D no).map (Value.int .u8)) := by unfold Hid pbZ; rw [hZ, List.map_append]
  have E8 : Hid (8 + (fbZ D.S 4 4).length = 4 + Z.length + 4) := by unfold Hid; rw [hZ]; omega
  have hw1 : IntKind.u8.wrap no = no := by rw [IntKind.wrap_u8']; omega
  rw [E8.out]
  clear hZ E8 BX R0 HO HC H4
  go_enter Tryd.func16, Tryd.ntmps16
  go_wp2_with fail
  go_region_held3 (fun x => x.cell? ⟨w.heap.size, 0, none⟩ = some (.int .i64 D.L) ∧ x.cell? ⟨w.heap.size, 1, none⟩ = some (.slice a D.S.length c))
    (first | exact k5 | exact k4 | exact k3 | exact k2 | exact k1 | go_keep)
    (first
      | (go_at_call 44; refine (NUM.out _).mono ?_; rintro e w1 ⟨gn, cn, rfl, on, bn⟩
         have B1 : Hid (Below V.heap.size V w1) := (by unfold Hid; first | exact ((Below.refl V.heap.size V).alloc (Nat.le_refl _) _).drew.trans (bn.mono (by simp)) | exact (Below.refl V.heap.size V).drew.trans (bn.mono (Nat.le_refl _)))
         have ON : Hid (w1.ownsRow V.heap.size 5 1 (.slice (some ⟨gn, 0, none⟩) 2 cn) 2 ((numZ D.L).map (Value.int .u8))) := (by unfold Hid; first | exact on.down (by simp) | exact on.down (Nat.le_refl _))
         have k1 : w1.cell? ⟨w.heap.size, 0, none⟩ = some (.int .i64 D.L) ∧ w1.cell? ⟨w.heap.size, 1, none⟩ = some (.slice a D.S.length c) := ⟨(B1.out.cell (p := ⟨w.heap.size, 0, none⟩) l0).trans v0, (B1.out.cell (p := ⟨w.heap.size, 1, none⟩) l0).trans v1⟩)
      | (refine step_append_lies _ (by rfl) (.tmp 7) (.tmp 10) 54 (by rfl) V.heap.size 5 i0 (.int .u8 0) 1 1 Tryd.underlying54 hi.out hz0.out hz1.out hz2.out rfl (by omega) (.slice (some ⟨V.heap.size, 0, none⟩) 2 2) 2 [.int .u8 112, .int .u8 no] (by rfl) (by exact own_below (own_litA V no) bn) ⟨gn, 0, none⟩ 2 cn ((numZ D.L).map (Value.int .u8)) (by rfl) (by rfl) (by exact ON.out.cells rfl) (map_one _ (fun _ => rfl) _) (by omega) (by unfold maxLen; omega) (by omega) (by exact B1.out.size) w1.heap.size (by rfl) ?_
         intro g2 c2 w2 o2 hg2 ha2 hl2
         have hgA : w1.grownBy w2 (some V.heap.size) := hg2
         have B2 : Hid (Below V.heap.size V w2) := B1.out.grown hgA B1.out.size (fun k h => by cases h; exact Nat.le_refl _)
         have O2 : Hid (w2.ownsRow V.heap.size 5 1 (.slice (some ⟨g2, 0, none⟩) 4 c2) 4 (([112, no, D.L / 256, D.L % 256] : List Int).map (Value.int .u8))) := o2
         have k2 : w2.cell? ⟨w.heap.size, 0, none⟩ = some (.int .i64 D.L) ∧ w2.cell? ⟨w.heap.size, 1, none⟩ = some (.slice a D.S.length c) := ⟨(B2.out.cell (p := ⟨w.heap.size, 0, none⟩) l0).trans v0, (B2.out.cell (p := ⟨w.heap.size, 1, none⟩) l0).trans v1⟩
         clear hgA o2 hg2 ha2 hl2)
      | (refine step_append_lies _ (by rfl) (.tmp 7) (.tmp 10) 54 (by rfl) V.heap.size 5 i0 (.int .u8 0) 1 1 Tryd.underlying54 hi.out hz0.out hz1.out hz2.out rfl (by omega) (.slice (some ⟨w1.heap.size, 0, none⟩) 2 2) 2 [.int .u8 112, .int .u8 no] (by rfl) (by exact World.ownsRow_lit w1 #[.int .u8 112, .int .u8 no] 2 B1.out.size (by unfold maxLen; omega) rfl) ⟨gn, 0, none⟩ 2 cn ((numZ D.L).map (Value.int .u8)) (by rfl) (by rfl) (by exact (ON.out.alloc _).cells rfl) (map_one _ (fun _ => rfl) _) (by omega) (by unfold maxLen; omega) (by omega) (by have := B1.out.size; simp; omega) (w1.heap.size + 1) (by simp) ?_
         intro g2 c2 w2 o2 hg2 ha2 hl2
         have hgA : (w1.alloc (.cells #[.int .u8 112, .int .u8 no] 5)).grownBy w2 (some w1.heap.size) := hg2
         have B2 : Hid (Below V.heap.size V w2) := (B1.out.alloc B1.out.size _).grown hgA (by have := B1.out.size; simp; omega) (fun k h => by cases h; exact B1.out.size)
         have O2 : Hid (w2.ownsRow V.heap.size 5 1 (.slice (some ⟨g2, 0, none⟩) 4 c2) 4 (([112, no, D.L / 256, D.L % 256] : List Int).map (Value.int .u8))) := o2
         have k2 : w2.cell? ⟨w.heap.size, 0, none⟩ = some (.int .i64 D.L) ∧ w2.cell? ⟨w.heap.size, 1, none⟩ = some (.slice a D.S.length c) := ⟨(B2.out.cell (p := ⟨w.heap.size, 0, none⟩) l0).trans v0, (B2.out.cell (p := ⟨w.heap.size, 1, none⟩) l0).trans v1⟩
         clear hgA o2 hg2 ha2 hl2)
      | (go_at_call 45; refine (FLD.out _ (by exact HB.out.trans (B2.out.mono (Nat.le_of_lt l0)))).mono ?_; rintro e w3 ⟨ga, gc, rfl, o3, b3⟩
         have B3 : Hid (Below V.heap.size V w3) := B2.out.trans (b3.mono B2.out.size)
         have P3 : Hid (w3.ownsRow V.heap.size 5 1 (.slice (some ⟨g2, 0, none⟩) 4 c2) 4 (([112, no, D.L / 256, D.L % 256] : List Int).map (Value.int .u8))) := own_below O2.out b3
         have O3 : Hid (w3.ownsRow V.heap.size 5 1 (.slice (some ⟨ga, 0, none⟩) Z.length gc) Z.length (Z.map (Value.int .u8))) := o3.down B2.out.size
         have k3 : w3.cell? ⟨w.heap.size, 0, none⟩ = some (.int .i64 D.L) ∧ w3.cell? ⟨w.heap.size, 1, none⟩ = some (.slice a D.S.length c) := ⟨(B3.out.cell (p := ⟨w.heap.size, 0, none⟩) l0).trans v0, (B3.out.cell (p := ⟨w.heap.size, 1, none⟩) l0).trans v1⟩
         clear o3 b3)
      | (refine step_append_lies _ (by rfl) (.tmp 11) (.tmp 14) 54 (by rfl) V.heap.size 5 i0 (.int .u8 0) 1 1 Tryd.underlying54 hi.out hz0.out hz1.out hz2.out rfl (by omega) (.slice (some ⟨g2, 0, none⟩) 4 c2) 4 (([112, no, D.L / 256, D.L % 256] : List Int).map (Value.int .u8)) (by rfl) (by exact P3.out) ⟨ga, 0, none⟩ Z.length gc (Z.map (Value.int .u8)) (by rfl) (by simp) (by exact O3.out.cells rfl) (map_one _ (fun _ => rfl) _) (by omega) (by unfold maxLen; omega) (by omega) (by exact B3.out.size) w3.heap.size (by rfl) ?_
         intro g4 c4 w4 o4 hg4 ha4 hl4
         have hgA : w3.grownBy w4 (some g2) := hg4
         have B4 : Hid (Below V.heap.size V w4) := B3.out.grown hgA B3.out.size (fun k h => by cases h; exact (P3.out.lt g2 rfl).1)
         have O4 : Hid (w4.ownsRow V.heap.size 5 1 (.slice (some ⟨g4, 0, none⟩) (4 + Z.length) c4) (4 + Z.length) ((pbZ D no).map (Value.int .u8))) := (by unfold Hid; rw [← HP.out]; exact o4)
         have k4 : w4.cell? ⟨w.heap.size, 0, none⟩ = some (.int .i64 D.L) ∧ w4.cell? ⟨w.heap.size, 1, none⟩ = some (.slice a D.S.length c) := ⟨(B4.out.cell (p := ⟨w.heap.size, 0, none⟩) l0).trans v0, (B4.out.cell (p := ⟨w.heap.size, 1, none⟩) l0).trans v1⟩
         clear hgA o4 hg4 ha4 hl4)
      | (go_at_call 43; refine (SEA.out w4 g4 c4 (by exact B4.out.size) (by exact O4.out)).mono ?_; rintro e w5 ⟨⟨a5, c5, rfl, o5⟩, b5⟩
         have B5 : Hid (Below V.heap.size V w5) := B4.out.trans b5
         have O5 : Hid (w5.ownsRow V.heap.size 5 1 (.slice a5 (4 + Z.length + 4) c5) (4 + Z.length + 4) ((pbZ D no ++ sumZ C).map (Value.int .u8))) := o5
         have k5 : w5.cell? ⟨w.heap.size, 0, none⟩ = some (.int .i64 D.L) ∧ w5.cell? ⟨w.heap.size, 1, none⟩ = some (.slice a D.S.length c) := ⟨(B5.out.cell (p := ⟨w.heap.size, 0, none⟩) l0).trans v0, (B5.out.cell (p := ⟨w.heap.size, 1, none⟩) l0).trans v1⟩
         clear o5 b5))
  all_goals
    have BE : Hid (Below w.heap.size w w5) := HB.out.trans (B5.out.mono (Nat.le_of_lt l0))
    have OE : Hid (w5.ownsRow w.heap.size 5 1 (.slice a5 (4 + Z.length + 4) c5) (4 + Z.length + 4) ((pbZ D no ++ sumZ C).map (Value.int .u8))) := O5.out.down (Nat.le_of_lt l0)
    clear k1 k2 k3 k4 k5 on bn ON B1 B2 O2 B3 P3 O3 B4 O4 B5 O5 v0 v1 NUM FLD SEA HP hV
    go_wp2
    go_ret
    exact ⟨⟨a5, c5, rfl, OE.out⟩, BE.out⟩

end Go.Proofs.YtcokbogicbdoaaaDoor.G
