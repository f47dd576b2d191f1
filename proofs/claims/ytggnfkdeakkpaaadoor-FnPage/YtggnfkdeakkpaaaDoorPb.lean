/-
  The bytes of a page: what both answer, and the walk of the program's PageBytes.
-/
import Derived.Test.YtggnfkdeakkpaaaDoorSh
import Derived.Test.YtggnfkdeakkpaaaDoorPk
namespace Go.Proofs.YtggnfkdeakkpaaaDoor
open Go Go.RowKit
attribute [local go_sem ↓] Go.wp_at_zero Go.wp_at_succ


def pbZ (D : DG) (no : Int) : List Int := [112, no, D.L / 256, D.L % 256] ++ fbZ D.S 4 4
def pbR (D : DG) (no : Int) : List Int := if okG D && inB no 0 255 then pbZ D no ++ sumZ (Crc.crc (pbZ D no) : Nat) else []
def pbC (D : DG) (no : Int) : Int := if okG D then (if inB no 0 255 then 0 else 4) else 1
theorem pb1 {D : DG} {no : Int} (h : okG D = false) : pbC D no = 1 ∧ pbR D no = [] := by unfold pbC pbR; rw [h]; exact ⟨rfl, rfl⟩
theorem pb4 {D : DG} {no : Int} (h : okG D = true) (h1 : inB no 0 255 = false) : pbC D no = 4 ∧ pbR D no = [] := by unfold pbC pbR; rw [h, h1]; exact ⟨rfl, rfl⟩
theorem pb0 {D : DG} {no : Int} (h : okG D = true) (h1 : inB no 0 255 = true) : pbC D no = 0 ∧ pbR D no = pbZ D no ++ sumZ (Crc.crc (pbZ D no) : Nat) := by unfold pbC pbR; rw [h, h1]; exact ⟨rfl, rfl⟩
theorem okF_page {D : DG} (h : okG D = true) : okF D.S 4 = true := by
  unfold okF
  rw [List.all_eq_true]
  exact fun s hs => decide_eq_true (by have := (okG_parts h).2.2.2 s (List.mem_of_mem_take hs); omega)
theorem fb_len {D : DG} (h : okG D = true) : (fbZ D.S 4 4).length ≤ 1025 := by
  have := fbZ_len (ss := D.S) (n := 4) 4 (by rw [(okG_parts h).2.2.1]; omega) (okF_page h)
  omega
theorem fb_bytes {D : DG} (h : okG D = true) : ∀ z ∈ fbZ D.S 4 4, 0 ≤ z ∧ z < 256 := by
  intro z hz
  unfold fbZ at hz
  rcases List.mem_cons.1 hz with rfl | hz
  · omega
  · obtain ⟨l, hl, hzl⟩ := List.mem_flatten.1 hz
    obtain ⟨s, hs', rfl⟩ := List.mem_map.1 hl
    rcases List.mem_cons.1 hzl with rfl | hz'
    · have := (okG_parts h).2.2.2 s (List.mem_of_mem_take hs'); omega
    · obtain ⟨b, _, rfl⟩ := List.mem_map.1 hz'
      have := b.toNat_lt
      omega
theorem pb_bytes {D : DG} {no : Int} (h : okG D = true) (h1 : 0 ≤ no ∧ no ≤ 255) : ∀ z ∈ pbZ D no, 0 ≤ z ∧ z < 256 := by
  intro z hz
  have hp := okG_parts h
  unfold pbZ at hz
  rcases List.mem_append.1 hz with hz | hz
  · simp at hz
    rcases hz with rfl | rfl | rfl | rfl <;> omega
  · exact fb_bytes h z hz
theorem pb_len {D : DG} {no : Int} : (pbZ D no).length = 4 + (fbZ D.S 4 4).length := by unfold pbZ; simp; omega
theorem sum_bytes {c : Int} (h0 : 0 ≤ c) (h1 : c < 4294967296) : ∀ z ∈ sumZ c, 0 ≤ z ∧ z < 256 := by
  intro z hz
  simp [sumZ] at hz
  rcases hz with rfl | rfl | rfl | rfl <;> omega
theorem pbR_fit (D : DG) (no : Int) : (pbR D no).length ≤ 1048576 ∧ ∀ z ∈ pbR D no, 0 ≤ z ∧ z < 256 := by
  cases h : okG D
  · rw [(pb1 h).2]; exact ⟨by simp, fun _ h => by cases h⟩
  cases h1 : inB no 0 255
  · rw [(pb4 h h1).2]; exact ⟨by simp, fun _ h => by cases h⟩
  have hno : 0 ≤ no ∧ no ≤ 255 := by simpa [inB] using h1
  rw [(pb0 h h1).2]
  refine ⟨?_, fun z hz => ?_⟩
  · rw [List.length_append, pb_len]; have := fb_len h; simp [sumZ]; omega
  · rcases List.mem_append.1 hz with hz | hz
    · exact pb_bytes h hno z hz
    · exact sum_bytes (by omega) (by have := crc_lt _ (pb_bytes h hno); omega) z hz
theorem ret_bi {a : Option Addr} {n c : Nat} {x y : Int} (h : x = y) : Ending.returned (.tuple #[.slice a n c, .int .i64 x]) = .returned (.tuple #[.slice a n c, .int .i64 y]) := by rw [h]
theorem own_capB {w : World} {base e size n m cap : Nat} {a : Option Addr} {xs : List Value} (h : w.ownsRow base e size (.slice a m cap) n xs) : m ≤ cap := by
  rcases h.2 with ⟨hv, h0⟩ | ⟨g, cap', cur, hv, hb, hg, hnc, hcm, hcs, htake⟩
  · cases hv; exact Nat.le_refl _
  · cases hv; exact hnc

set_option maxRecDepth 100000 in
set_option maxHeartbeats 4000000 in
theorem c_implPB (h : HG) (D : DG) (no : Int) (w : World) (r : RdG w h D) (hf : FitG D) (ht : TabH w) :
    Calls Tryd.prog 12 #[.int .i64 no, .agg #[.int .i64 h.l, .slice h.a h.n h.c]] w fun e w' => (∃ ha hc, e = .returned (.tuple #[.slice ha (pbR D no).length hc, .int .i64 (pbC D no)]) ∧ w'.ownsRow w.heap.size 5 1 (.slice ha (pbR D no).length hc) (pbR D no).length ((pbR D no).map (Value.int .u8))) ∧ Below w.heap.size w w' := by
  have CO : Hid (∀ (W : World), RdG W h D → Calls Tryd.prog 16 #[.agg #[.int .i64 h.l, .slice h.a h.n h.c]] W fun e w' => e = .returned (.bool (okG D)) ∧ Below W.heap.size W w') := fun W hW => c_implOK h D W hW hf
  have RR : Hid (RdG w h D) := r
  have HT : Hid (TabH w) := ht
  clear ht
  have k0 := r.len
  obtain ⟨f0, f1⟩ := hf
  obtain ⟨rl, r0⟩ := r
  obtain ⟨l, a, n, c⟩ := h
  simp only at *
  subst k0 rl
  have R0 : Hid (RdV w a D.S.length (D.S.map Value.string)) := r0
  have F1 : Hid (∀ s ∈ D.S, s.size ≤ 1048576) := f1
  clear r0 f1
  obtain ⟨V, hV⟩ : ∃ V, w.alloc (.cells #[.int .i64 D.L, .slice a D.S.length c] 25) = V := ⟨_, rfl⟩
  have HB : Hid (Below w.heap.size w V) := by unfold Hid; rw [← hV]; exact (Below.refl _ _).alloc (Nat.le_refl _) _
  have BX : Box V w.heap.size 25 #[.int .i64 D.L, .slice a D.S.length c] := by rw [← hV]; exact Box.new _ _ _
  obtain ⟨v0, v1⟩ := box2 BX
  go_enter Tryd.func12, Tryd.ntmps12
  go_wp2_with fail
  refine (CO.out V (RR.out.below HB.out)).mono ?_
  rintro e w1 ⟨rfl, hb⟩
  have B1 : Hid (Below w.heap.size w w1) := HB.out.trans (hb.mono HB.out.size)
  have X1 : Hid (Box w1 w.heap.size 25 #[.int .i64 D.L, .slice a D.S.length c]) := BX.belowS hb
  obtain ⟨x0, x1⟩ := box2 X1.out
  have q01 : w.heap.size < w1.heap.size := X1.out.lt
  clear hb hV HB BX v0 v1 CO RR
  cases hok : okG D
  · have E : Hid (pbC D no = 1 ∧ pbR D no = []) := pb1 hok
    clear hok
    go_wp2
    go_ret2
    rw [E.out.1, E.out.2]
    exact ⟨⟨none, 0, rfl, World.ownsRow_nil _ _ _ _⟩, B1.out⟩
  have HO : Hid (okG D = true) := hok
  have hp := okG_parts hok
  have H4 : Hid (D.S.length = 4) := hp.2.2.1
  have hL0 : 0 ≤ D.L := hp.1
  have hL1 : D.L ≤ 1000 := hp.2.1
  clear hok hp
  by_cases h0 : no < 0
  · have E : Hid (pbC D no = 4 ∧ pbR D no = []) := pb4 HO.out (decide_eq_false (by omega))
    go_wp2
    go_ret2
    rw [E.out.1, E.out.2]
    exact ⟨⟨none, 0, rfl, World.ownsRow_nil _ _ _ _⟩, B1.out⟩
  by_cases h1 : 255 < no
  · have E : Hid (pbC D no = 4 ∧ pbR D no = []) := pb4 HO.out (decide_eq_false (by omega))
    go_wp2
    go_ret2
    rw [E.out.1, E.out.2]
    exact ⟨⟨none, 0, rfl, World.ownsRow_nil _ _ _ _⟩, B1.out⟩
  have E : Hid (pbC D no = 0 ∧ pbR D no = pbZ D no ++ sumZ (Crc.crc (pbZ D no) : Nat)) := pb0 HO.out (decide_eq_true (by omega))
  have EF : Hid (errF D.S D.S.length = 0 ∧ resF D.S D.S.length = fbZ D.S 4 4) := by unfold Hid; rw [H4.out]; exact err0 (by omega) (okF_page HO.out)
  go_wp2_with fail
  refine (c_implF a D.S.length c D.S w1 (R0.out.below B1.out) f0 F1.out).mono ?_
  rintro e w2 ⟨fa, fc, rfl, o2, hb⟩
  rw [EF.out.2] at o2
  rw [EF.out.1, EF.out.2]
  have B2 : Hid (Below w.heap.size w w2) := B1.out.trans (hb.mono B1.out.size)
  have X2 : Hid (Box w2 w.heap.size 25 #[.int .i64 D.L, .slice a D.S.length c]) := X1.out.belowS hb
  have q12 : w1.heap.size ≤ w2.heap.size := hb.size
  obtain ⟨Z, hZ⟩ : ∃ Z, Z = fbZ D.S 4 4 := ⟨_, rfl⟩
  have hzl : Z.length ≤ 1025 := by rw [hZ]; exact fb_len HO.out
  rw [← hZ] at o2
  rw [← hZ]
  have O2 : Hid (w2.ownsRow w1.heap.size 5 1 (.slice fa Z.length fc) Z.length (Z.map (Value.int .u8))) := o2
  have HZ : Hid (Z = fbZ D.S 4 4) := hZ
  clear hb o2 hZ x0 x1 X1 B1
  obtain ⟨x0, x1⟩ := box2 X2.out
  have hw1 : IntKind.u8.wrap no = no := by rw [IntKind.wrap_u8']; omega
  have hw2 : IntKind.u8.wrap (D.L / 256) = D.L / 256 := by rw [IntKind.wrap_u8']; omega
  have hw3 : IntKind.u8.wrap D.L = D.L % 256 := by rw [IntKind.wrap_u8']
  obtain ⟨i0, g9, g90, g91, g92⟩ := info_parts infoB
  have hi : Hid (Tryd.prog.info? 5 = some i0) := g9
  have hz0 : Hid (i0.zero = some (.int .u8 0)) := g90
  have hz1 : Hid (i0.size = 1) := g91
  have hz2 : Hid (i0.bytes = 1) := g92
  clear g9 g90 g91 g92
  have SL : Hid (∀ (W : World) (g cap : Nat), Below w.heap.size w W → W.ownsRow w.heap.size 5 1 (.slice (some ⟨g, 0, none⟩) (4 + Z.length) cap) (4 + Z.length) ((pbZ D no).map (Value.int .u8)) → Calls Tryd.prog 40 #[.slice (some ⟨g, 0, none⟩) (4 + Z.length) cap] W fun e w' => (∃ a' c', e = .returned (.slice a' (pbR D no).length c') ∧ w'.ownsRow W.heap.size 5 1 (.slice a' (pbR D no).length c') (pbR D no).length ((pbR D no).map (Value.int .u8))) ∧ Below W.heap.size W w') := fun W g cap hW ho => by
    have hc := own_capB ho
    have hl : (pbR D no).length = 4 + Z.length + 4 := by rw [E.out.2, List.length_append, pb_len, ← HZ.out]; simp [sumZ]
    rw [hl, E.out.2]
    exact c_seal g 0 (4 + Z.length) cap (pbZ D no) W (RdV.own ho) (pb_bytes HO.out (by omega)) (by omega) hc (HT.out.below hW) _ rfl
  go_wp2_with (
    at_builtin; refine app_any _ rfl (.tmp 37) (.tmp 38) 22 rfl w.heap.size 5 i0 (.int .u8 0) 1 1 Tryd.underlying22 hi.out hz0.out hz1.out hz2.out rfl (by omega) (.slice (some ⟨w2.heap.size, 0, none⟩) 4 4) 4 [.int .u8 112, .int .u8 no, .int .u8 (D.L / 256), .int .u8 (D.L % 256)] rfl (World.ownsRow_lit w2 #[.int .u8 112, .int .u8 no, .int .u8 (D.L / 256), .int .u8 (D.L % 256)] 4 B2.out.size (by unfold maxLen; omega) rfl) fa Z.length fc (Z.map (Value.int .u8)) rfl (rdV_none (RdV.own O2.out) (own_src O2.out)) (by simp) (fun ad e => src1 (e ▸ ((RdV.own O2.out).below ((Below.refl _ _).alloc (Nat.le_refl _) _)))) (map_one _ (fun _ => rfl) _) (by unfold maxLen; omega) (by omega) (by have := B2.out.size; simp; omega) ?_
    intro a3 c3 w3 ho hg0 hk0
    have hg : (w2.alloc (.cells #[.int .u8 112, .int .u8 no, .int .u8 (D.L / 256), .int .u8 (D.L % 256)] 5)).grownBy w3 (some w2.heap.size) := hg0
    have B3 : Hid (Below w.heap.size w w3) := (B2.out.alloc B2.out.size _).grown hg (by simp; have := B2.out.size; omega) (fun k h => by cases h; exact B2.out.size)
    have eZ : [Value.int .u8 112, .int .u8 no, .int .u8 (D.L / 256), .int .u8 (D.L % 256)] ++ Z.map (Value.int .u8) = (pbZ D no).map (Value.int .u8) := by unfold pbZ; rw [← HZ.out, List.map_append]; rfl
    rw [eZ] at ho
    have O3 : Hid (w3.ownsRow w.heap.size 5 1 (.slice a3 (4 + Z.length) c3) (4 + Z.length) ((pbZ D no).map (Value.int .u8))) := ho
    obtain ⟨g3, rfl⟩ : ∃ g, a3 = some ⟨g, 0, none⟩ := by
      rcases own_form ho with ⟨hv, h⟩ | ⟨g, cap, hv, _⟩
      · omega
      · cases hv; exact ⟨g, rfl⟩
    have q23 : w.heap.size ≤ w3.heap.size := B3.out.size
    clear ho hg0 hk0 hg eZ x0 x1 O2 B2 X2 hw1 hw2 hw3)
  refine (SL.out w3 g3 c3 B3.out O3.out).mono ?_
  rintro e w4 ⟨⟨a4, c4, rfl, o4⟩, hb⟩
  have B4 : Hid (Below w.heap.size w w4) := B3.out.trans (hb.mono B3.out.size)
  have O4 : Hid (w4.ownsRow w.heap.size 5 1 (.slice a4 (pbR D no).length c4) (pbR D no).length ((pbR D no).map (Value.int .u8))) := o4.down q23
  have EC : Hid (pbC D no = 0) := E.out.1
  clear hb o4 SL E EF
  go_wp2
  go_ret2
  rw [EC.out]
  exact ⟨⟨a4, c4, rfl, O4.out⟩, B4.out⟩

end Go.Proofs.YtggnfkdeakkpaaaDoor
