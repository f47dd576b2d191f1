/-
  DirtyPages: both sides.
-/
import Derived.Test.YtkpopingbbaomaaGreatDoorZzav
namespace Go.Proofs.YtkpopingbbaomaaGreatDoor
open Go Go.RowKit
attribute [local go_sem ↓] Go.wp_at_zero Go.wp_at_succ

theorem cell_num {w : World} (x : Value) (t : TypeId) : ∀ j u, [x][j]? = some u → (w.alloc (.cells #[x] t)).cell? ((⟨w.heap.size, 0, none⟩ : Addr).add j) = some u := by
  intro j u hj
  have hb := Box.new w #[x] t
  rw [addr_add, Nat.zero_add, hb.cell j]
  rw [← hj]
  simp
set_option maxRecDepth 100000 in
set_option maxHeartbeats 8000000 in
theorem c_specDP (h : HD) (ep : Int) (la : Option Addr) (ln lc : Nat) (su : Int) (fa : Option Addr) (fn fc : Nat) (ha : Int) (D : DD) (L : List DR) (F : List FF) (w : World) (r : RdD w h D) (hf : Fit D) (rl : RdQ w la ln L) (hln : ln ≤ 1048576) (hls : ∀ v ∈ L, v.b.size ≤ 1048576 ∧ v.a.size ≤ 1048576) (rf : RdF w fa fn F) (hfn : fn ≤ 1048576) (hfs : ∀ i, i < fn → G.FitG (F.getD i zeroF).D) :
    Calls Tryz.prog 44 #[.agg #[.slice h.a0 h.n0 h.c0, .slice h.a1 h.n1 h.c1, .bool h.b, .slice h.a2 h.n2 h.c2, .int .i64 ep, .slice la ln lc, .int .i64 su, .slice fa fn fc, .int .i64 ha]] w fun e w' => (∃ a' c', e = .returned (.tuple #[.slice a' (dpR (okST D h.n0 ep ln L su fn F ha) F).length c', .int .i64 (dpC (okST D h.n0 ep ln L su fn F ha))]) ∧ w'.ownsRow w.heap.size 3 1 (.slice a' (dpR (okST D h.n0 ep ln L su fn F ha) F).length c') (dpR (okST D h.n0 ep ln L su fn F ha) F).length ((dpR (okST D h.n0 ep ln L su fn F ha) F).map (Value.int .i64))) ∧ Below w.heap.size w w' := by
  obtain ⟨V, hV⟩ : ∃ V, w.alloc (.cells #[.slice h.a0 h.n0 h.c0, .slice h.a1 h.n1 h.c1, .bool h.b, .slice h.a2 h.n2 h.c2, .int .i64 ep, .slice la ln lc, .int .i64 su, .slice fa fn fc, .int .i64 ha] 46) = V := ⟨_, rfl⟩
  have B0 : Hid (Below w.heap.size w V) := by unfold Hid; rw [← hV]; exact (Below.refl _ _).alloc (Nat.le_refl _) _
  have X0 : Hid (Box V w.heap.size 46 #[.slice h.a0 h.n0 h.c0, .slice h.a1 h.n1 h.c1, .bool h.b, .slice h.a2 h.n2 h.c2, .int .i64 ep, .slice la ln lc, .int .i64 su, .slice fa fn fc, .int .i64 ha]) := by unfold Hid; rw [← hV]; exact Box.new _ _ _
  have C1 := c_specST h ep la ln lc su fa fn fc ha D L F V (r.below B0.out) hf (rl.below B0.out) hln hls (rf.below B0.out) hfn hfs
  have C2 : Hid (∀ no W, Below w.heap.size w W → Calls Tryz.prog 110 #[.agg #[.slice h.a0 h.n0 h.c0, .slice h.a1 h.n1 h.c1, .bool h.b, .slice h.a2 h.n2 h.c2, .int .i64 ep, .slice la ln lc, .int .i64 su, .slice fa fn fc, .int .i64 ha], .int .i64 no] W fun e w' => e = .returned (.int .i64 (ixF no 0 F)) ∧ Below W.heap.size W w') := fun no W hW => c_l05Fr h ep la ln lc su fa fn fc ha F no W (rf.below hW) hfn
  have RF : Hid (RdF w fa fn F) := rf
  obtain ⟨i3, hi3, hz30, hz31, hz32⟩ := info_parts infoI
  clear r hf rl hls rf hfs
  obtain ⟨x0, x1, x2, x3, x4, x5, x6, x7, x8⟩ := box9 X0.out
  go_enter Tryz.func44, Tryz.ntmps44
  go_wp2_with fail
  refine C1.mono ?_
  rintro e w1 ⟨rfl, hb⟩
  have B1 : Hid (Below w.heap.size w w1) := B0.out.trans (hb.mono B0.out.size)
  have X1 : Hid (Box w1 w.heap.size 46 #[.slice h.a0 h.n0 h.c0, .slice h.a1 h.n1 h.c1, .bool h.b, .slice h.a2 h.n2 h.c2, .int .i64 ep, .slice la ln lc, .int .i64 su, .slice fa fn fc, .int .i64 ha]) := X0.out.belowS hb
  have s1 : w.heap.size < w1.heap.size := X1.out.lt
  clear hb X0 B0 C1 hV x0 x1 x2 x3 x4 x5 x6 x7 x8
  obtain ⟨x0, x1, x2, x3, x4, x5, x6, x7, x8⟩ := box9 X1.out
  cases hok : okST D h.n0 ep ln L su fn F ha
  · have HOK : Hid (okST D h.n0 ep ln L su fn F ha = false) := hok
    clear hok
    go_wp2
    go_ret2
    rw [HOK.out]
    exact ⟨⟨_, 0, rfl, World.ownsRow_lit w1 #[] 0 (Nat.le_of_lt s1) (Nat.zero_le _) rfl⟩, B1.out.alloc (Nat.le_of_lt s1) _⟩
  · have h3 : fn ≤ 3 := (okST_arF hok).1
    have HOK : Hid (okST D h.n0 ep ln L su fn F ha = true) := hok
    clear hok
    have O0 : Hid ((w1.alloc (.cells #[] 3)).ownsRow w1.heap.size 3 1 (.slice (some ⟨w1.heap.size, 0, none⟩) 0 0) 0 []) := World.ownsRow_lit w1 #[] 0 (Nat.le_refl _) (Nat.zero_le _) rfl
    have BA : Hid (Below w1.heap.size w1 (w1.alloc (.cells #[] 3))) := (Below.refl _ _).alloc (Nat.le_refl _) _
    go_wp2
    clear x0 x1 x2 x3 x4 x5 x6 x7 x8
    go_loopw [4, 5] (fun x i wr => ∃ (k : Nat) (ak : Option Addr) (ck : Nat), k ≤ 8 ∧ i = .int .i64 k ∧ x = .slice ak (dpS F k).length ck ∧ Hid (wr.ownsRow w1.heap.size 3 1 (.slice ak (dpS F k).length ck) (dpS F k).length ((dpS F k).map (Value.int .i64))) ∧ Hid (Below w1.heap.size w1 wr)) (fun _ i _ => 8 - (intOf i).toNat)
    case atStart => exact ⟨0, _, 0, by omega, rfl, rfl, O0.out, BA.out⟩
    case round =>
      clear O0 BA
      obtain ⟨k, ak, ck, hk, rfl, rfl, HO, HB⟩ := hrel
      have X2 : Hid (Box wr w.heap.size 46 #[.slice h.a0 h.n0 h.c0, .slice h.a1 h.n1 h.c1, .bool h.b, .slice h.a2 h.n2 h.c2, .int .i64 ep, .slice la ln lc, .int .i64 su, .slice fa fn fc, .int .i64 ha]) := X1.out.belowS HB.out
      have B2 : Hid (Below w.heap.size w wr) := B1.out.trans (HB.out.mono B1.out.size)
      have hL := dpS_len F k
      obtain ⟨x0, x1, x2, x3, x4, x5, x6, x7, x8⟩ := box9 X2.out
      by_cases hlt : k < 8
      · have hlt' : (k : Int) < 8 := by omega
        have C := C2.out (k : Int) wr B2.out
        have HBD := ixF_bound (k : Int) F 0
        obtain ⟨z, hz⟩ : ∃ z, z = ixF (k : Int) 0 F := ⟨_, rfl⟩
        rw [← hz] at C HBD
        have HZ : Hid (dtA F k = (decide (0 ≤ z) && (F.getD z.toNat zeroF).d)) := by unfold Hid dtA; rw [hz]
        clear hz
        go_wp2_with fail
        refine C.mono ?_
        rintro e w2 ⟨rfl, hb⟩
        have B3 : Hid (Below w.heap.size w w2) := B2.out.trans (hb.mono B2.out.size)
        have HB3 : Hid (Below w1.heap.size w1 w2) := HB.out.trans (hb.mono HB.out.size)
        have X3 : Hid (Box w2 w.heap.size 46 #[.slice h.a0 h.n0 h.c0, .slice h.a1 h.n1 h.c1, .bool h.b, .slice h.a2 h.n2 h.c2, .int .i64 ep, .slice la ln lc, .int .i64 su, .slice fa fn fc, .int .i64 ha]) := X2.out.belowS hb
        have HO3 : Hid (w2.ownsRow w1.heap.size 3 1 (.slice ak (dpS F k).length ck) (dpS F k).length ((dpS F k).map (Value.int .i64))) := own_below HO.out hb
        have s2 : w1.heap.size ≤ w2.heap.size := HB3.out.size
        clear hb C X2 B2 HO HB x0 x1 x2 x3 x4 x5 x6 x7 x8
        obtain ⟨x0, x1, x2, x3, x4, x5, x6, x7, x8⟩ := box9 X3.out
        by_cases hz0 : 0 ≤ z
        · obtain ⟨hl, hcs, hpg⟩ := RF.out
          obtain ⟨m, rfl⟩ := Int.eq_ofNat_of_zero_le hz0
          have hm : m < fn := by
            rcases HBD with q | q
            · omega
            · have := q.2; omega
          obtain ⟨b, off, hfa, hbl, hc⟩ := hcs (by omega)
          obtain ⟨_, _, _, d3, _⟩ := hc m hm
          have e3 := (B3.out.cell (p := ⟨b, off + m * 5 + 3, none⟩) hbl).trans d3
          obtain ⟨dd, hd⟩ : ∃ dd, dd = (F.getD m zeroF).d := ⟨_, rfl⟩
          rw [← hd] at e3
          rw [hfa] at x7
          have HD : Hid (dtA F k = dd) := by unfold Hid; rw [HZ.out, decide_eq_true hz0, Int.toNat_natCast, ← hd]; rfl
          have g1 : (0 : Int) ≤ (m : Int) := by omega
          have g2 : (m : Int) < (fn : Int) := by omega
          clear hl hcs hpg hc d3 hd hfa HZ HBD hz0
          cases dd
          · have HK : Hid (dpS F (k + 1) = dpS F k) := dpS_no HD.out
            go_wp2
            go_roundw
            case rel => exact ⟨k + 1, ak, ck, by omega, by go_num, by rw [HK.out], by unfold Hid; rw [HK.out]; exact HO3.out, HB3⟩
            case measure => simp [intOf]; omega
          · have HK : Hid (dpS F (k + 1) = dpS F k ++ [(k : Int)]) := dpS_yes HD.out
            have hown := HO3.out
            go_wp2_with (at_builtin; refine app_any _ rfl (.tmp 29) (.tmp 31) 24 rfl w1.heap.size 3 i3 (.int .i64 0) 1 8 Tryz.underlying24 hi3 hz30 hz31 hz32 rfl (by omega) (.slice ak (dpS F k).length ck) (dpS F k).length ((dpS F k).map (Value.int .i64)) rfl (hown.alloc _) (some ⟨w2.heap.size, 0, none⟩) 1 1 [.int .i64 k] rfl (fun h => by cases h) rfl (fun ad e => by cases e; exact cell_num _ _) (by intro u hu; simp at hu; subst hu; rfl) (by unfold maxLen; omega) (by omega) (by simp; omega) ?_; intro a' c' w5 ho hg hkk)
            have hb5 : Hid (Below w1.heap.size w1 w5) := (HB3.out.alloc s2 _).grown hg (by simp; omega) (fun x e => (hown.lt x e).1)
            have HL : Hid ((dpS F (k + 1)).length = (dpS F k).length + 1) := by unfold Hid; rw [HK.out, List.length_append]; rfl
            have ho5 : Hid (w5.ownsRow w1.heap.size 3 1 (.slice a' (dpS F (k + 1)).length c') (dpS F (k + 1)).length ((dpS F (k + 1)).map (Value.int .i64))) := by
              unfold Hid; rw [HK.out, List.map_append, List.length_append]; exact ho
            clear ho hg hkk hown
            go_roundw
            case rel => exact ⟨k + 1, a', c', by omega, by go_num, by rw [HL.out], ho5, hb5⟩
            case measure => simp [intOf]; omega
        · have HD : Hid (dtA F k = false) := by unfold Hid; rw [HZ.out, decide_eq_false hz0]; rfl
          have HK : Hid (dpS F (k + 1) = dpS F k) := dpS_no HD.out
          clear HBD HZ
          go_wp2
          go_roundw
          case rel => exact ⟨k + 1, ak, ck, by omega, by go_num, by rw [HK.out], by unfold Hid; rw [HK.out]; exact HO3.out, HB3⟩
          case measure => simp [intOf]; omega
      · have e : k = 8 := by omega
        subst e
        have hb' := B1.out.trans (HB.out.mono B1.out.size)
        have ho' := HO.out.down (Nat.le_of_lt s1)
        have HB' : Hid (Below w.heap.size w wr) := hb'
        have HO' : Hid (wr.ownsRow w.heap.size 3 1 (.slice ak (dpS F 8).length ck) (dpS F 8).length ((dpS F 8).map (Value.int .i64))) := ho'
        clear hb' ho' HO HB
        go_wp2
        go_ret2
        rw [HOK.out]
        exact ⟨⟨ak, ck, rfl, HO'.out⟩, HB'.out⟩
set_option maxRecDepth 100000 in
set_option maxHeartbeats 8000000 in
theorem c_implDP (h : HD) (ep : Int) (la : Option Addr) (ln lc : Nat) (su : Int) (fa : Option Addr) (fn fc : Nat) (ha : Int) (D : DD) (L : List DR) (F : List FF) (w : World) (r : RdD w h D) (hf : Fit D) (rl : RdQ w la ln L) (hln : ln ≤ 1048576) (hls : ∀ v ∈ L, v.b.size ≤ 1048576 ∧ v.a.size ≤ 1048576) (rf : RdF w fa fn F) (hfn : fn ≤ 1048576) (hfs : ∀ i, i < fn → G.FitG (F.getD i zeroF).D) (ht : TabH w) :
    Calls Tryz.prog 45 #[.agg #[.slice h.a0 h.n0 h.c0, .slice h.a1 h.n1 h.c1, .bool h.b, .slice h.a2 h.n2 h.c2, .int .i64 ep, .slice la ln lc, .int .i64 su, .slice fa fn fc, .int .i64 ha]] w fun e w' => (∃ a' c', e = .returned (.tuple #[.slice a' (dpR (okST D h.n0 ep ln L su fn F ha) F).length c', .int .i64 (dpC (okST D h.n0 ep ln L su fn F ha))]) ∧ w'.ownsRow w.heap.size 3 1 (.slice a' (dpR (okST D h.n0 ep ln L su fn F ha) F).length c') (dpR (okST D h.n0 ep ln L su fn F ha) F).length ((dpR (okST D h.n0 ep ln L su fn F ha) F).map (Value.int .i64))) ∧ Below w.heap.size w w' := by
  obtain ⟨V, hV⟩ : ∃ V, w.alloc (.cells #[.slice h.a0 h.n0 h.c0, .slice h.a1 h.n1 h.c1, .bool h.b, .slice h.a2 h.n2 h.c2, .int .i64 ep, .slice la ln lc, .int .i64 su, .slice fa fn fc, .int .i64 ha] 46) = V := ⟨_, rfl⟩
  have B0 : Hid (Below w.heap.size w V) := by unfold Hid; rw [← hV]; exact (Below.refl _ _).alloc (Nat.le_refl _) _
  have X0 : Hid (Box V w.heap.size 46 #[.slice h.a0 h.n0 h.c0, .slice h.a1 h.n1 h.c1, .bool h.b, .slice h.a2 h.n2 h.c2, .int .i64 ep, .slice la ln lc, .int .i64 su, .slice fa fn fc, .int .i64 ha]) := by unfold Hid; rw [← hV]; exact Box.new _ _ _
  have C1 := c_implST h D ep la ln lc L su fa fn fc F ha V (r.below B0.out) hf (rl.below B0.out) hln (fun v hv => by have := hls v hv; unfold maxLen; omega) (rf.below B0.out) hfn hfs (ht.below B0.out)
  have RF : Hid (RdF w fa fn F) := rf
  obtain ⟨i3, hi3, hz30, hz31, hz32⟩ := info_parts infoI
  clear r hf rl hls rf hfs ht
  obtain ⟨x0, x1, x2, x3, x4, x5, x6, x7, x8⟩ := box9 X0.out
  go_enter Tryz.func45, Tryz.ntmps45
  go_wp2_with fail
  refine C1.mono ?_
  rintro e w1 ⟨rfl, hb⟩
  have B1 : Hid (Below w.heap.size w w1) := B0.out.trans (hb.mono B0.out.size)
  have X1 : Hid (Box w1 w.heap.size 46 #[.slice h.a0 h.n0 h.c0, .slice h.a1 h.n1 h.c1, .bool h.b, .slice h.a2 h.n2 h.c2, .int .i64 ep, .slice la ln lc, .int .i64 su, .slice fa fn fc, .int .i64 ha]) := X0.out.belowS hb
  have s1 : w.heap.size < w1.heap.size := X1.out.lt
  clear hb X0 B0 C1 hV x0 x1 x2 x3 x4 x5 x6 x7 x8
  obtain ⟨x0, x1, x2, x3, x4, x5, x6, x7, x8⟩ := box9 X1.out
  cases hok : okST D h.n0 ep ln L su fn F ha
  · have HOK : Hid (okST D h.n0 ep ln L su fn F ha = false) := hok
    clear hok
    go_wp2
    go_ret2
    rw [HOK.out]
    exact ⟨⟨none, 0, rfl, World.ownsRow_nil w1 _ _ _⟩, B1.out⟩
  · have hq := okST_arF hok
    have HOK : Hid (okST D h.n0 ep ln L su fn F ha = true) := hok
    have h3 : fn ≤ 3 := hq.1
    have HEQ : Hid (srtL (dpI F) = dpS F 8) := dp_eq hq.2
    clear hok hq
    have HFL : Hid (F.length = fn) := RF.out.1
    go_wp2
    clear x0 x1 x2 x3 x4 x5 x6 x7 x8
    go_loopw [4, 13] (fun x i wr => ∃ (k : Nat) (ak : Option Addr) (ck : Nat), k ≤ fn ∧ i = .int .i64 k ∧ x = .slice ak (dpI (F.take k)).length ck ∧ Hid (wr.ownsRow w1.heap.size 3 1 (.slice ak (dpI (F.take k)).length ck) (dpI (F.take k)).length ((dpI (F.take k)).map (Value.int .i64))) ∧ Hid (Below w1.heap.size w1 wr)) (fun _ i _ => fn - (intOf i).toNat)
    case atStart => exact ⟨0, none, 0, by omega, rfl, rfl, World.ownsRow_nil _ _ _ _, Below.refl _ _⟩
    case round =>
      obtain ⟨k, ak, ck, hk, rfl, rfl, HO, HB⟩ := hrel
      have B2 : Hid (Below w.heap.size w wr) := B1.out.trans (HB.out.mono B1.out.size)
      have hL := dpI_len (F.take k)
      rw [List.length_take] at hL
      by_cases hlt : k < fn
      · obtain ⟨hl, hcs, hpg⟩ := RF.out
        obtain ⟨b, off, hfa, hbl, hc⟩ := hcs (by omega)
        obtain ⟨d0, d1, d2, d3, d4⟩ := hc k hlt
        have HT := dpI_take (F := F) (k := k) (by omega)
        obtain ⟨⟨no, g, D1, d, fi⟩, hv⟩ : ∃ v, v = F.getD k zeroF := ⟨_, rfl⟩
        rw [← hv] at d0 d1 d2 d3 d4 HT
        dsimp only at d0 d1 d2 d3 d4 HT
        have HT' : Hid (_ = _) := HT
        have e0 := (B2.out.cell (p := ⟨b, off + k * 5, none⟩) hbl).trans d0
        have e1 := (B2.out.cell (p := ⟨b, off + k * 5 + 1, none⟩) hbl).trans d1
        have e2 := (B2.out.cell (p := ⟨b, off + k * 5 + 2, none⟩) hbl).trans d2
        have e3 := (B2.out.cell (p := ⟨b, off + k * 5 + 3, none⟩) hbl).trans d3
        have e4 := (B2.out.cell (p := ⟨b, off + k * 5 + 4, none⟩) hbl).trans d4
        have g1 : (0 : Int) ≤ (k : Int) := by omega
        have g2 : (k : Int) < (fn : Int) := by omega
        obtain ⟨W, hW⟩ : ∃ W, wr.alloc (.cells #[.int .i64 no, .int .i64 g.l, .slice g.a g.n g.c, .bool d, .int .i64 fi] 142) = W := ⟨_, rfl⟩
        have hbA : Below wr.heap.size wr W := by rw [← hW]; exact (Below.refl _ _).alloc (Nat.le_refl _) _
        have HN : Hid (Box W wr.heap.size 142 #[.int .i64 no, .int .i64 g.l, .slice g.a g.n g.c, .bool d, .int .i64 fi]) := by unfold Hid; rw [← hW]; exact Box.new _ _ _
        have HB3 : Hid (Below w1.heap.size w1 W) := HB.out.trans (hbA.mono HB.out.size)
        have HO3 : Hid (W.ownsRow w1.heap.size 3 1 (.slice ak (dpI (F.take k)).length ck) (dpI (F.take k)).length ((dpI (F.take k)).map (Value.int .i64))) := own_below HO.out hbA
        have s2 : w1.heap.size ≤ W.heap.size := HB3.out.size
        rw [hfa]
        clear hl hcs hpg hc hv HT d0 d1 d2 d3 d4 hbA HB HO B2 hfa
        obtain ⟨y0, y1, y2, y3, y4⟩ := box5 HN.out
        cases d
        · have HK : Hid (dpI (F.take (k + 1)) = dpI (F.take k)) := by unfold Hid; rw [HT'.out]; simp
          go_wp2
          go_roundw
          case rel => exact ⟨k + 1, ak, ck, by omega, by go_num, by rw [HK.out], by unfold Hid; rw [HK.out]; exact HO3.out, HB3⟩
          case measure => simp [intOf]; omega
        · have HK : Hid (dpI (F.take (k + 1)) = dpI (F.take k) ++ [no]) := by unfold Hid; rw [HT'.out]; simp
          have hown := HO3.out
          go_wp2_with (at_builtin; refine app_any _ rfl (.tmp 19) (.tmp 22) 24 rfl w1.heap.size 3 i3 (.int .i64 0) 1 8 Tryz.underlying24 hi3 hz30 hz31 hz32 rfl (by omega) (.slice ak (dpI (F.take k)).length ck) (dpI (F.take k)).length ((dpI (F.take k)).map (Value.int .i64)) rfl (hown.alloc _) (some ⟨W.heap.size, 0, none⟩) 1 1 [.int .i64 no] rfl (fun h => by cases h) rfl (fun ad e => by cases e; exact cell_num _ _) (by intro u hu; simp at hu; subst hu; rfl) (by unfold maxLen; omega) (by omega) (by simp; omega) ?_; intro a' c' w5 ho hg hkk)
          have hb5 : Hid (Below w1.heap.size w1 w5) := (HB3.out.alloc s2 _).grown hg (by simp; omega) (fun x e => (hown.lt x e).1)
          have HL : Hid ((dpI (F.take (k + 1))).length = (dpI (F.take k)).length + 1) := by unfold Hid; rw [HK.out, List.length_append]; rfl
          have ho5 : Hid (w5.ownsRow w1.heap.size 3 1 (.slice a' (dpI (F.take (k + 1))).length c') (dpI (F.take (k + 1))).length ((dpI (F.take (k + 1))).map (Value.int .i64))) := by
            unfold Hid; rw [HK.out, List.map_append, List.length_append]; exact ho
          clear ho hg hkk hown
          go_wp2
          go_roundw
          case rel => exact ⟨k + 1, a', c', by omega, by go_num, by rw [HL.out], ho5, hb5⟩
          case measure => simp [intOf]; omega
      · have e : k = fn := by omega
        subst e
        have ht : F.take k = F := List.take_of_length_le (by have := HFL.out; omega)
        have ho := HO.out
        rw [ht] at ho hL ⊢
        have hl3 : (dpI F).length ≤ 3 := by omega
        have C := c_sort w1.heap.size ak ck (dpI F).toArray wr (by simpa using ho) (by simpa using hl3)
        simp only [List.size_toArray] at C
        have hge : ¬ (k : Int) < (k : Int) := by omega
        have CS : Hid (Calls Tryz.prog 111 #[.slice ak (dpI F).length ck] wr fun e w' => e = .returned (.tuple #[]) ∧ w'.ownsRow w1.heap.size 3 1 (.slice ak (dpI F).length ck) (dpI F).length ((srtL (dpI F)).map (Value.int .i64)) ∧ wr.grownBy w' (ob ak)) := C
        have HLE : Hid ((dpI F).length = (dpS F 8).length) := by unfold Hid; rw [← HEQ.out]; exact (srtL_perm _).1.length_eq.symm
        have HOB : Hid (∀ g, ob ak = some g → w1.heap.size ≤ g) := fun g e => by rw [← ob_slice ak (dpI F).length ck] at e; exact (ho.lt g e).1
        clear ho C ht HO hL
        go_wp2_with fail
        refine CS.out.mono ?_
        rintro e w2 ⟨rfl, r1, gr⟩
        rw [HEQ.out] at r1
        have HB' : Hid (Below w.heap.size w w2) := B1.out.trans ((HB.out.grown gr HB.out.size HOB.out).mono B1.out.size)
        have r1' := r1.down (Nat.le_of_lt s1)
        rw [HLE.out] at r1' ⊢
        have HO' : Hid (w2.ownsRow w.heap.size 3 1 (.slice ak (dpS F 8).length ck) (dpS F 8).length ((dpS F 8).map (Value.int .i64))) := r1'
        clear r1 r1' gr CS HB HLE HOB
        go_wp2
        go_ret2
        rw [HOK.out]
        exact ⟨⟨ak, ck, rfl, HO'.out⟩, HB'.out⟩

end Go.Proofs.YtkpopingbbaomaaGreatDoor
