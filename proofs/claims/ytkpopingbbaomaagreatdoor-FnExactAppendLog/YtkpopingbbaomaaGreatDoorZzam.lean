/-
  What page bytes say: the walk of the program's pageOf.
-/
import Derived.Test.YtkpopingbbaomaaGreatDoorRcq
import Derived.Test.YtkpopingbbaomaaGreatDoorZzai
import Derived.Deep.QuietTactic
import Derived.Deep.RegionHeld3
import Derived.Deep.AppendLies
import Derived.Deep.RegionLawGrows
import Derived.Test.YtkpopingbbaomaaGreatDoorZzaj
namespace Go.Proofs.YtkpopingbbaomaaGreatDoor
open Go Go.RowKit
attribute [local go_sem ↓] Go.wp_at_zero Go.wp_at_succ


def cells2 (ps : List (Int × Int)) : List Value := ps.flatMap fun c => [.int .i64 c.1, .int .i64 c.2]
theorem cells2_append (us vs : List (Int × Int)) : cells2 (us ++ vs) = cells2 us ++ cells2 vs := by unfold cells2; rw [List.flatMap_append]
theorem cells2_len (ps : List (Int × Int)) : (cells2 ps).length = 2 * ps.length := by
  unfold cells2
  induction ps with
  | nil => rfl
  | cons c r ih => rw [List.flatMap_cons, List.length_append, ih]; simp; omega
theorem prs_succ (k : Nat) (r : List Int) : prs (k + 1) r = prs k r ++ [(r.getD (2 * k) 0, r.getD (2 * k + 1) 0)] := by
  unfold prs; rw [List.range_succ, List.map_append]; rfl
theorem prs_len (k : Nat) (r : List Int) : (prs k r).length = k := by simp [prs]
theorem infoC : (Tryz.prog.info? 368).map (fun i => (i.zero, i.size, i.bytes)) = some (some (Value.agg #[.int .i64 0, .int .i64 0]), 2, 16) := by kernel_rfl
theorem cells2w (w : World) (v0 v1 : Value) (t : TypeId) : ∀ j u, [v0, v1][j]? = some u → (w.alloc (.cells #[v0, v1] t)).cell? ((⟨w.heap.size, 0, none⟩ : Addr).add j) = some u := by
  intro j u h
  have hb := Box.new w #[v0, v1] t
  have e : (⟨w.heap.size, 0, none⟩ : Addr).add j = ⟨w.heap.size, j, none⟩ := by unfold Addr.add; split <;> simp_all
  rw [e, hb.cell]
  simpa using h
theorem ixS {t : ByteArray} {k : Nat} (z : Int) (i : Int) (hi : i = (k : Int)) (hlt : k < t.size) (hz : ((t[k]'hlt).toNat : Int) = z) (wx : World) : (Instr.index 9 (.string t) (.int .i64 i)).run Tryz.prog wx = .ok (.int .u8 z) wx := by
  subst hi
  have : (k : Int) < (t.size : Int) := by omega
  rw [run_index_string _ _ _ _ _ Tryz.underlying9, ← hz]
  simp [hlt]
set_option maxRecDepth 100000 in
set_option maxHeartbeats 4000000 in
theorem c_checked (zs : List Int) (w : World) (hz : ∀ z ∈ zs, 0 ≤ z ∧ z < 256) (hn : zs.length ≤ 9223372036854775807) :
    Calls Tryz.prog 306 #[.string (strOfNums zs)] w fun e w' => (match rc1 zs with
      | none => ∃ a n c s, e = .returned (.tuple #[.slice a n c, .string s, .bool false])
      | some (ps, r) => ∃ a c, e = .returned (.tuple #[.slice a ps.length c, .string (strOfNums r), .bool true]) ∧ w'.ownsRow w.heap.size 368 2 (.slice a ps.length c) ps.length (cells2 ps)) ∧ Below w.heap.size w w' := by
  obtain ⟨t, ht⟩ : ∃ t, t = strOfNums zs := ⟨_, rfl⟩
  have hts : t.size = zs.length := by rw [ht, strOfNums_size]
  cases zs with
  | nil =>
    have he : t.toList.isEmpty = true := by rw [ByteArray.toList_eq]; have : t.data.toList = [] := List.length_eq_zero_iff.1 (by simpa using hts); rw [this]; rfl
    rw [← ht]
    clear ht hz hts
    go_enter Tryz.func306, Tryz.ntmps306
    go_wp2
    go_ret3
    exact ⟨⟨_, _, _, _, rfl⟩, Below.refl _ _⟩
  | cons z r =>
    have he : t.toList.isEmpty = false := by
      rw [ByteArray.toList_eq]
      cases h : t.data.toList with
      | nil => have h2 := congrArg List.length h; simp at h2; simp at hts; rw [h2] at hts; simp at hts
      | cons => rfl
    have hz0 : 0 ≤ z ∧ z < 256 := hz z (by simp)
    obtain ⟨N, hN⟩ : ∃ N : Nat, (N : Int) = z := ⟨z.toNat, by omega⟩
    subst hN
    obtain ⟨u, hu⟩ : ∃ u, u = strOfNums r := ⟨_, rfl⟩
    have hus : u.size = r.length := by rw [hu, strOfNums_size]
    simp only [List.length_cons] at hts
    have x1 : t.extract 1 (r.length + 1) = u := by rw [ht, hu, son_cut]; simp
    have ix0 := ixS (t := t) (k := 0) (N : Int) 0 rfl (by omega) (by subst ht; exact son_get hz (p := 0) _)
    have HG : Hid (∀ p (h : p < u.size), ((u[p]'h).toNat : Int) = r.getD p 0) := by
      intro p h; subst hu; exact son_get (fun y hy => hz y (List.mem_cons_of_mem _ hy)) h
    have HU : Hid (u = strOfNums r) := hu
    have HB : Hid (∀ y ∈ r, 0 ≤ y ∧ y < 256) := fun y hy => hz y (List.mem_cons_of_mem _ hy)
    have hNN : (N : Int).toNat = N := by simp
    have z1 : (1 : Int) ≤ (t.size : Int) := by omega
    by_cases h1 : r.length < 2 * N
    · have E : Hid (rc1 ((N : Int) :: r) = none) := by unfold Hid; simp only [rc1]; rw [hNN, if_pos h1]
      rw [E.out, ← ht]
      have z2 : (u.size : Int) < 2 * (N : Int) := by omega
      clear ht hz hu
      go_enter Tryz.func306, Tryz.ntmps306
      go_wp2_with fail
      go_quiet (fail)
      go_wp2
      go_ret3
      exact ⟨⟨_, _, _, _, rfl⟩, below_drewN (Below.refl _ _) _⟩
    · have E : Hid (rc1 ((N : Int) :: r) = some (prs N r, r.drop (2 * N))) := by unfold Hid; simp only [rc1]; rw [hNN, if_neg h1]
      rw [E.out, ← ht]
      have z2 : ¬ (u.size : Int) < 2 * (N : Int) := by omega
      clear ht hz hu
      obtain ⟨i0, hi, hz0', hz1, hz2⟩ := info_parts infoC
      go_enter Tryz.func306, Tryz.ntmps306
      go_wp2_with fail
      go_quiet (fail)
      go_wp2
      go_loopw [2, 6, 20] (fun v _ j wr => ∃ k : Nat, k ≤ N ∧ j = .int .i64 k ∧ wr.ownsRow w.heap.size 368 2 v k (cells2 (prs k r)) ∧ Below w.heap.size w wr) (fun _ _ j _ => N - (intOf j).toNat)
      case atStart => exact ⟨0, Nat.zero_le _, rfl, World.ownsRow_nil _ _ _ _, below_drewN (Below.refl _ _) _⟩
      case round =>
        obtain ⟨k, hk, rfl, hown, hb⟩ := hrel
        obtain ⟨av, cv, hv⟩ := own_slice' hown
        subst hv
        have hbs : w.heap.size ≤ wr.heap.size := hb.size
        by_cases hlt : k < N
        · obtain ⟨x, hx⟩ : ∃ x, x = r.getD (2 * k) 0 := ⟨_, rfl⟩
          obtain ⟨y, hy⟩ : ∃ y, y = r.getD (2 * k + 1) 0 := ⟨_, rfl⟩
          have ixa := ixS (t := u) (k := 2 * k) x (2 * (k : Int)) (by omega) (by omega) (by rw [hx]; exact HG.out _ _)
          have ixb := ixS (t := u) (k := 2 * k + 1) y (2 * (k : Int) + 1) (by omega) (by omega) (by rw [hy]; exact HG.out _ _)
          have hxy : 0 ≤ x ∧ x < 256 ∧ 0 ≤ y ∧ y < 256 := by
            have h1 := HB.out x (by rw [hx, List.getD_eq_getElem?_getD, List.getElem?_eq_getElem (by omega)]; exact List.getElem_mem _)
            have h2 := HB.out y (by rw [hy, List.getD_eq_getElem?_getD, List.getElem?_eq_getElem (by omega)]; exact List.getElem_mem _)
            omega
          have hw1 : IntKind.i64.wrap (2 * (k : Int)) = 2 * (k : Int) := by rw [IntKind.wrap_i64]; omega
          have hw2 : IntKind.i64.wrap (2 * (k : Int) + 1) = 2 * (k : Int) + 1 := by rw [IntKind.wrap_i64]; omega
          have hw3 : IntKind.i64.wrap x = x := by rw [IntKind.wrap_i64]; omega
          have hw4 : IntKind.i64.wrap y = y := by rw [IntKind.wrap_i64]; omega
          have HP : Hid (prs (k + 1) r = prs k r ++ [(x, y)]) := by unfold Hid; rw [prs_succ, hx, hy]
          have HB0 : Hid (Below w.heap.size w wr) := hb
          have HO0 : Hid (wr.ownsRow w.heap.size 368 2 (.slice av k cv) k (cells2 (prs k r))) := hown
          clear hx hy hb hown
          go_wp2_with fail
          go_region_law (refine step_append_lies _ (by rfl) (.tmp 23) (.tmp 36) 344 (by rfl) w.heap.size 368 i0 (.agg #[.int .i64 0, .int .i64 0]) 2 16 Tryz.underlying344 hi hz0' hz1 hz2 rfl (by omega) (.slice av k cv) k (cells2 (prs k r)) (by rfl) (by exact HO0.out.alloc _) ⟨wr.heap.size, 0, none⟩ 1 1 [.int .i64 x, .int .i64 y] (by rfl) (by rfl) (by exact cells2w _ _ _ _) (by intro u hu; simp at hu; rcases hu with rfl | rfl <;> rfl) (by omega) (by unfold maxLen; omega) (by omega) (by simp; omega) _ rfl ?_; intro g2 c2 w2 o2 hg2 ha2 hl2)
          all_goals
            have hgA : (wr.alloc (.cells #[.int .i64 x, .int .i64 y] 368)).drew.grownBy w2 (Value.slice av k cv).ownBlock := hg2
            have hb2 : Below w.heap.size w w2 := (HB0.out.alloc HB0.out.size _).drew.grown hgA (by simp; omega) (fun b e => (HO0.out.lt b e).1)
            have ho2 : w2.ownsRow w.heap.size 368 2 (.slice (some ⟨g2, 0, none⟩) (k + 1) c2) (k + 1) (cells2 (prs (k + 1) r)) := by rw [HP.out, cells2_append]; exact o2
            clear o2 hg2 ha2 hl2 hgA ixa ixb
            go_wp2
            go_roundw
            case rel => exact ⟨k + 1, by omega, by go_num, ho2, hb2⟩
            case measure => simp [intOf]; omega
        · have e : k = N := by omega
          subst e
          have x2 : u.extract (2 * k) r.length = strOfNums (r.drop (2 * k)) := by
            rw [HU.out, son_cut, List.take_of_length_le (by simp)]
          have HL : Hid ((prs k r).length = k) := prs_len k r
          clear HU HG HB
          go_wp2_with fail
          go_quiet (fail)
          go_wp2
          go_ret3
          rw [HL.out, ← x2]
          exact ⟨⟨_, _, rfl, hown⟩, below_drewN hb _⟩
theorem cells2_get (ps : List (Int × Int)) (k : Nat) (h : k < ps.length) : (cells2 ps)[k * 2]? = some (.int .i64 (ps[k]'h).1) ∧ (cells2 ps)[k * 2 + 1]? = some (.int .i64 (ps[k]'h).2) := by
  induction ps generalizing k with
  | nil => simp at h
  | cons c r ih =>
    have e : cells2 (c :: r) = .int .i64 c.1 :: .int .i64 c.2 :: cells2 r := rfl
    cases k with
    | zero => rw [e]; simp
    | succ k =>
      rw [e, show (k + 1) * 2 = k * 2 + 1 + 1 by omega]
      simpa using ih k (by simpa using h)
theorem rg_step {ds : List (Int × Int)} {k : Nat} {lo hi l : Int} (h : k < ds.length) : rg (ds.drop k) lo hi l = (inB (ds[k]'h).1 lo hi && (inB (ds[k]'h).2 1 (l - 1) && rg (ds.drop (k + 1)) ((ds[k]'h).1 + 1) hi l)) := by
  rw [List.drop_eq_getElem_cons h]
  rfl
set_option maxRecDepth 100000 in
set_option maxHeartbeats 4000000 in
theorem c_right (base : Nat) (a : Option Addr) (c : Nat) (ps : List (Int × Int)) (lo hi l : Int) (w : World) (ho : w.ownsRow base 368 2 (.slice a ps.length c) ps.length (cells2 ps)) (hn : ps.length ≤ 255) (hps : ∀ p ∈ ps, 0 ≤ p.1 ∧ p.1 < 256) :
    Calls Tryz.prog 288 #[.slice a ps.length c, .int .i64 lo, .int .i64 hi, .int .i64 l] w fun e w' => e = .returned (.bool (rg ps lo hi l)) ∧ Below w.heap.size w w' := by
  have HO : Hid (w.ownsRow base 368 2 (.slice a ps.length c) ps.length (cells2 ps)) := ho
  have HP : Hid (∀ p ∈ ps, 0 ≤ p.1 ∧ p.1 < 256) := hps
  obtain ⟨n, hnn⟩ : ∃ n, n = ps.length := ⟨_, rfl⟩
  have HN : Hid (n = ps.length) := hnn
  rw [← hnn] at hn ⊢
  clear ho hps hnn
  go_enter Tryz.func288, Tryz.ntmps288
  go_wp2
  go_loopw [1, 10, 13] (fun lv _ j wr => ∃ (k : Nat) (lo' : Int), k ≤ n ∧ j = .int .i64 k ∧ lv = .int .i64 lo' ∧ Hid (rg ps lo hi l = rg (ps.drop k) lo' hi l) ∧ Below w.heap.size w wr) (fun _ _ j _ => n - (intOf j).toNat)
  case atStart => exact ⟨0, lo, Nat.zero_le _, rfl, rfl, rfl, Below.refl _ _⟩
  case round =>
    obtain ⟨k, lo', hk, rfl, rfl, HR, hb⟩ := hrel
    by_cases hlt : k < n
    · have hlt' : k < ps.length := by have := HN.out; omega
      obtain ⟨g, rfl⟩ : ∃ g, a = some ⟨g, 0, none⟩ := by
        rcases own_form HO.out with ⟨hv, h⟩ | ⟨g, cap, hv, _⟩
        · have := HN.out; omega
        · cases hv; exact ⟨g, rfl⟩
      obtain ⟨x, hx⟩ : ∃ x, x = (ps[k]'hlt').1 := ⟨_, rfl⟩
      obtain ⟨y, hy⟩ : ∃ y, y = (ps[k]'hlt').2 := ⟨_, rfl⟩
      have hg : g < w.heap.size := (HO.out.lt g rfl).2
      have c0 : wr.cell? ⟨g, k * 2, none⟩ = some (.int .i64 x) := by rw [hb.cell (p := ⟨g, k * 2, none⟩) hg, HO.out.cellAt (k * 2) (by omega), (cells2_get ps k hlt').1, hx]
      have c1 : wr.cell? ⟨g, k * 2 + 1, none⟩ = some (.int .i64 y) := by rw [hb.cell (p := ⟨g, k * 2 + 1, none⟩) hg, HO.out.cellAt (k * 2 + 1) (by omega), (cells2_get ps k hlt').2, hy]
      have hx0 : 0 ≤ x ∧ x < 256 := by rw [hx]; exact HP.out _ (List.getElem_mem _)
      have HS : Hid (rg ps lo hi l = (inB x lo' hi && (inB y 1 (l - 1) && rg (ps.drop (k + 1)) (x + 1) hi l))) := by unfold Hid; rw [HR.out, rg_step hlt', hx, hy]
      have hbs : w.heap.size ≤ wr.heap.size := hb.size
      clear HR hx hy hlt'
      by_cases a1 : x < lo'
      · go_wp2
        go_ret
        exact ⟨ret_bool (by rw [HS.out, show inB x lo' hi = false from decide_eq_false (by omega)]; rfl), hb.alloc hbs _⟩
      by_cases a2 : hi < x
      · go_wp2
        go_ret
        exact ⟨ret_bool (by rw [HS.out, show inB x lo' hi = false from decide_eq_false (by omega)]; rfl), hb.alloc hbs _⟩
      by_cases a3 : y < 1
      · go_wp2
        go_ret
        exact ⟨ret_bool (by rw [HS.out, show inB y 1 (l - 1) = false from decide_eq_false (by omega)]; simp), hb.alloc hbs _⟩
      by_cases a4 : l ≤ y
      · go_wp2
        go_ret
        exact ⟨ret_bool (by rw [HS.out, show inB y 1 (l - 1) = false from decide_eq_false (by omega)]; simp), hb.alloc hbs _⟩
      have HT : Hid (rg ps lo hi l = rg (ps.drop (k + 1)) (x + 1) hi l) := by
        unfold Hid
        rw [HS.out, show inB x lo' hi = true from decide_eq_true (by omega), show inB y 1 (l - 1) = true from decide_eq_true (by omega)]
        rfl
      clear HS
      go_wp2
      go_roundw
      case rel => exact ⟨k + 1, x + 1, by omega, by go_num, by go_num, HT, hb.alloc hbs _⟩
      case measure => simp [intOf]; omega
    · have E : Hid (rg ps lo hi l = true) := by unfold Hid; rw [HR.out, List.drop_of_length_le (by have := HN.out; omega)]; rfl
      clear HR
      go_wp2
      go_ret
      exact ⟨ret_bool E.out.symm, hb⟩

end Go.Proofs.YtkpopingbbaomaaGreatDoor
namespace Go.Proofs.YtkpopingbbaomaaGreatDoor.G
open Go Go.RowKit
attribute [local go_sem ↓] Go.wp_at_zero Go.wp_at_succ


theorem own_zero (w : World) (B E : Nat) (h : E ≤ w.heap.size) : OwnG w B E ⟨0, none, 0, 0⟩ ⟨0, []⟩ := ⟨rfl, World.ownsRow_nil _ _ _ _, h, fun g e => by cases e⟩
def rpP (o : Option DG) : DG := o.getD ⟨0, []⟩
set_option maxRecDepth 100000 in
set_option maxHeartbeats 4000000 in
theorem c_pageOf (no : Int) (b off m : Nat) (x : List Int) (w : World) (hr : RdV w (some ⟨b, off, none⟩) m (x.map (Value.int .u8))) (hz : ∀ z ∈ x, 0 ≤ z ∧ z < 256) (hm : m ≤ 65536) :
    Calls Tryz.prog 301 #[.int .i64 no, .slice (some ⟨b, off, none⟩) m m] w fun e w' => (∃ h' : HG, e = .returned (.tuple #[.agg #[.int .i64 h'.l, .slice h'.a h'.n h'.c], .bool (rpD no x).isSome]) ∧ OwnG w' w.heap.size w'.heap.size h' (rpP (rpD no x))) ∧ Below w.heap.size w w' := by
  have hl : x.length = m := by simpa using hr.1
  obtain ⟨V, hV⟩ : ∃ V, w.alloc (.cells #[.int .i64 0, .slice none 0 0] 140) = V := ⟨_, rfl⟩
  have HB : Hid (Below w.heap.size w V) := by unfold Hid; rw [← hV]; exact (Below.refl _ _).alloc (Nat.le_refl _) _
  have BR : Hid (Box V w.heap.size 140 #[.int .i64 0, .slice none 0 0]) := by unfold Hid; rw [← hV]; exact Box.new _ _ _
  have l0 := BR.out.lt
  obtain ⟨u0, u1⟩ := box2 BR.out
  have t0 := BR.out.thaw 0
  have t1 := BR.out.thaw 1
  by_cases h4 : m < 4
  · have E : Hid (rpD no x = none) := rp_lo (by omega)
    clear hr hz
    go_enter Tryz.func301, Tryz.ntmps301
    go_wp2
    refine retG2 Tryz.results301 rfl rfl rfl (put2_box BR.out _ _) ⟨?_, put2_below HB.out (Nat.le_refl _) _ _⟩
    rw [E.out]
    exact ⟨⟨0, none, 0, 0⟩, rfl, own_zero _ _ _ (Nat.le_refl _)⟩
  have HZ : Hid (∀ z ∈ x, 0 ≤ z ∧ z < 256) := hz
  have HR : Hid (RdV w (some ⟨b, off, none⟩) m (x.map (Value.int .u8))) := hr
  have hb0 : ∀ i, i < m → 0 ≤ x.getD i 0 ∧ x.getD i 0 < 256 := fun i hi => by
    rw [List.getD_eq_getElem?_getD, List.getElem?_eq_getElem (by omega)]; exact hz _ (List.getElem_mem _)
  obtain ⟨b', off', e, hbl, hc⟩ := (hr.below HB.out).2 (by omega)
  cases e
  have HXL : Hid (x.length = m) := hl
  obtain ⟨x0, hx0⟩ : ∃ y, y = x.getD 0 0 := ⟨_, rfl⟩
  obtain ⟨x1, hx1⟩ : ∃ y, y = x.getD 1 0 := ⟨_, rfl⟩
  obtain ⟨x2, hx2⟩ : ∃ y, y = x.getD 2 0 := ⟨_, rfl⟩
  obtain ⟨x3, hx3⟩ : ∃ y, y = x.getD 3 0 := ⟨_, rfl⟩
  have d0 : V.cell? ⟨b, off, none⟩ = some (.int .u8 x0) := by have := hc 0 (by omega); rw [Nat.add_zero] at this; rw [this, hx0]; exact map_get _ _ _ _ (by omega)
  have d1 : V.cell? ⟨b, off + 1, none⟩ = some (.int .u8 x1) := by rw [hc 1 (by omega), hx1]; exact map_get _ _ _ _ (by omega)
  have d2 : V.cell? ⟨b, off + 2, none⟩ = some (.int .u8 x2) := by rw [hc 2 (by omega), hx2]; exact map_get _ _ _ _ (by omega)
  have d3 : V.cell? ⟨b, off + 3, none⟩ = some (.int .u8 x3) := by rw [hc 3 (by omega), hx3]; exact map_get _ _ _ _ (by omega)
  have r1 : 0 ≤ x1 ∧ x1 < 256 := by rw [hx1]; exact hb0 1 (by omega)
  have r2 : 0 ≤ x2 ∧ x2 < 256 := by rw [hx2]; exact hb0 2 (by omega)
  have r3 : 0 ≤ x3 ∧ x3 < 256 := by rw [hx3]; exact hb0 3 (by omega)
  have HX : Hid (x.getD 0 0 = x0 ∧ x.getD 1 0 = x1 ∧ lsnZ x = x2 * 256 + x3) := ⟨hx0.symm, hx1.symm, by unfold lsnZ; rw [hx2, hx3]⟩
  have em := fun W => eqMark W x0 x1 112 no
  clear hr hz hc hb0 hx0 hx1 hx2 hx3 hl
  go_enter Tryz.func301, Tryz.ntmps301
  go_wp2_with fail
  go_region
  obtain ⟨V1, hV1⟩ : ∃ W, (V.alloc (.cells #[.int .u8 x0, .int .i64 x1] 373)).drew = W := ⟨_, rfl⟩
  have hbv : Below V.heap.size V V1 := by rw [← hV1]; exact ((Below.refl _ _).alloc (Nat.le_refl _) _).drew
  have B1 : Hid (Below w.heap.size w V1) := HB.out.trans (hbv.mono HB.out.size)
  have BR1 : Hid (Box V1 w.heap.size 140 #[.int .i64 0, .slice none 0 0]) := BR.out.belowS hbv
  have BM : Hid (Box V1 V.heap.size 373 #[.int .u8 x0, .int .i64 x1]) := by unfold Hid; rw [← hV1]; exact Box.new V _ _
  have e2 := (hbv.cell (p := ⟨b, off + 2, none⟩) (by have := HB.out.size; omega)).trans d2
  have e3 := (hbv.cell (p := ⟨b, off + 3, none⟩) (by have := HB.out.size; omega)).trans d3
  rw [hV1]
  clear hV hV1 HB BR d0 d1 d2 d3 u0 u1 t0 t1 hbv
  obtain ⟨y0, y1⟩ := box2 BM.out
  obtain ⟨u0, u1⟩ := box2 BR1.out
  have t0 := BR1.out.thaw 0
  have t1 := BR1.out.thaw 1
  by_cases hmk : x0 = 112 ∧ x1 = no
  case neg =>
    have E : Hid (rpD no x = none) := rp_mark (by rw [HX.out.1, HX.out.2.1]; exact hmk)
    have em' : ∀ W : World, (Op.equalIn 10000 373 (.agg #[.int .u8 x0, .int .i64 x1]) (.agg #[.int .u8 112, .int .i64 no])).run Tryz.prog W = .ok false W := fun W => by
      rw [em W]
      have : (x0 == 112 && x1 == no) = false := by
        rw [Bool.eq_false_iff]; intro e; simp only [Bool.and_eq_true, beq_iff_eq] at e; exact hmk e
      rw [this]
    clear em hmk
    go_wp2
    refine retG2 Tryz.results301 rfl rfl rfl (put2_box BR1.out _ _) ⟨?_, put2_below B1.out (Nat.le_refl _) _ _⟩
    rw [E.out]
    exact ⟨⟨0, none, 0, 0⟩, rfl, own_zero _ _ _ (Nat.le_refl _)⟩
  have HM : Hid (x.getD 0 0 = 112 ∧ x.getD 1 0 = no) := by unfold Hid; rw [HX.out.1, HX.out.2.1]; exact hmk
  have em' : ∀ W : World, (Op.equalIn 10000 373 (.agg #[.int .u8 x0, .int .i64 x1]) (.agg #[.int .u8 112, .int .i64 no])).run Tryz.prog W = .ok true W := fun W => by
    rw [em W, hmk.1, hmk.2]; simp
  clear em hmk
  obtain ⟨k, rfl⟩ : ∃ k, m = k + 4 := ⟨m - 4, by omega⟩
  have hdl : (x.drop 4).length = k := by have := HXL.out; simp; omega
  have RF : Hid (∀ (A : Addr), (k = 0 ∨ A = ⟨b, off + 4, none⟩) → Calls Tryz.prog 304 #[.slice (some A) k k] V1 (AnsR V1 (x.drop 4))) := fun A hA => by
    refine c_implR (some A) k k (x.drop 4) V1 ?_ (fun z h => HZ.out z (List.mem_of_mem_drop h)) (by omega) (Nat.le_refl _) (by unfold maxLen; omega)
    rcases hA with rfl | rfl
    · have : x.drop 4 = [] := List.eq_nil_of_length_eq_zero hdl
      rw [this]; exact ⟨rfl, fun h => absurd h (by omega)⟩
    · have := (HR.out.below B1.out).cut 4 k (by omega)
      rwa [List.take_of_length_le (by omega)] at this
  have OR := okR_of (zs := x.drop 4) (by omega)
  have RW : Hid (errR (x.drop 4) = 0 → (resR (x.drop 4)).length ≤ 100 ∧ ∀ s ∈ resR (x.drop 4), s.size ≤ 255) := fun h => (read_write (fun z h => HZ.out z (List.mem_of_mem_drop h)) h).2.2
  obtain ⟨ST, hST⟩ : ∃ l, l = resR (x.drop 4) := ⟨_, rfl⟩
  rw [← hST] at RW
  obtain ⟨EC, hEC⟩ : ∃ c, c = errR (x.drop 4) := ⟨_, rfl⟩
  rw [← hEC] at RW
  rw [← hST, ← hEC] at OR
  have HOR : Hid ((EC = 0 ∧ okR (x.drop 4) = some ST) ∨ EC = 3 ∧ okR (x.drop 4) = none ∧ ST = []) := OR
  have key : ∀ w2 a2 c2, Hid (w2.ownsRow V1.heap.size 9 1 (.slice a2 ST.length c2) ST.length (ST.map Value.string)) → Hid (Below V1.heap.size V1 w2) → True := fun _ _ _ _ _ => trivial
  have HST : Hid (ST = resR (x.drop 4)) := hST
  have HEC : Hid (EC = errR (x.drop 4)) := hEC
  clear OR hdl key hST hEC
  have q01 : w.heap.size < V1.heap.size := BR1.out.lt
  rcases Nat.eq_zero_or_pos k with rfl | hk
  · go_wp2_with fail
    refine (RF.out ⟨b, off, none⟩ (by simp)).mono ?_
    rintro e w2 ⟨a2, c2, rfl, o2, hb⟩
    rw [← HST.out] at o2
    rw [← HST.out, ← HEC.out]
    have B2 : Hid (Below w.heap.size w w2) := B1.out.trans (hb.mono B1.out.size)
    have BR2 : Hid (Box w2 w.heap.size 140 #[.int .i64 0, .slice none 0 0]) := BR1.out.belowS hb
    have O2 : Hid (w2.ownsRow V1.heap.size 9 1 (.slice a2 ST.length c2) ST.length (ST.map Value.string)) := o2
    have f2 : w2.cell? ⟨b, off + 2, none⟩ = some (.int .u8 x2) := far6 hb e2
    have f3 : w2.cell? ⟨b, off + 3, none⟩ = some (.int .u8 x3) := far6 hb e3
    have q12 : V1.heap.size ≤ w2.heap.size := hb.size
    have hbl2 : b < w2.heap.size := World.block_lt_of_cell? w2 ⟨b, off + 2, none⟩ f2
    clear hb o2 e2 e3 y0 y1 u0 u1 t0 t1 em' RF
    go_wp2_with fail
    go_region
    obtain ⟨V3, hV3⟩ : ∃ W, (w2.alloc (.cells #[.int .i64 (x2 * 256 + x3), .slice a2 ST.length c2] 140)).drew = W := ⟨_, rfl⟩
    have hbv : Below w2.heap.size w2 V3 := by rw [← hV3]; exact ((Below.refl _ _).alloc (Nat.le_refl _) _).drew
    have B3 : Hid (Below w.heap.size w V3) := B2.out.trans (hbv.mono B2.out.size)
    have BR3 : Hid (Box V3 w.heap.size 140 #[.int .i64 0, .slice none 0 0]) := BR2.out.belowS hbv
    have BP3 : Hid (Box V3 w2.heap.size 140 #[.int .i64 (x2 * 256 + x3), .slice a2 ST.length c2]) := by unfold Hid; rw [← hV3]; exact Box.new w2 _ _
    have O3 : Hid (OwnG V3 V1.heap.size w2.heap.size ⟨x2 * 256 + x3, a2, ST.length, c2⟩ ⟨x2 * 256 + x3, ST⟩) := ⟨rfl, own_below O2.out hbv, hbv.size, fun g e => O2.out.lt g (by rw [ob_slice]; exact e)⟩
    rw [hV3]
    clear hV3 hbv B2 BR2 O2 f2 f3 hbl2
    obtain ⟨p0, p1⟩ := box2 BP3.out
    obtain ⟨u0, u1⟩ := box2 BR3.out
    have t0 := BR3.out.thaw 0
    have t1 := BR3.out.thaw 1
    rcases HOR.out with ⟨h0, hS⟩ | ⟨h3, hN, _⟩
    case inr =>
      have E : Hid (rpD no x = none) := rp_form hN
      rw [h3]
      clear HOR RW h3 hN
      go_wp2
      refine retG2 Tryz.results301 rfl rfl rfl (put2_box BR3.out _ _) ⟨?_, put2_below B3.out (Nat.le_refl _) _ _⟩
      rw [E.out]
      exact ⟨⟨0, none, 0, 0⟩, rfl, own_zero _ _ _ (Nat.le_refl _)⟩
    have HS : Hid (okR (x.drop 4) = some ST) := hS
    have hfit := RW.out h0
    have FT : Hid (FitG ⟨x2 * 256 + x3, ST⟩) := ⟨by have := hfit.1; show ST.length ≤ 1048576; omega, fun s h => by have := hfit.2 s h; omega⟩
    rw [h0]
    clear HOR RW h0 hS hfit
    go_wp2_with fail
    refine (c_implOK ⟨x2 * 256 + x3, a2, ST.length, c2⟩ ⟨x2 * 256 + x3, ST⟩ V3 O3.out.rd FT.out).mono ?_
    rintro e w4 ⟨rfl, hb⟩
    have B4 : Hid (Below w.heap.size w w4) := B3.out.trans (hb.mono B3.out.size)
    have BR4 : Hid (Box w4 w.heap.size 140 #[.int .i64 0, .slice none 0 0]) := BR3.out.belowS hb
    have BP4 : Hid (Box w4 w2.heap.size 140 #[.int .i64 (x2 * 256 + x3), .slice a2 ST.length c2]) := BP3.out.belowS hb
    have O4 : Hid (OwnG w4 V1.heap.size w2.heap.size ⟨x2 * 256 + x3, a2, ST.length, c2⟩ ⟨x2 * 256 + x3, ST⟩) := O3.out.below hb
    clear hb B3 BR3 BP3 O3 p0 p1 u0 u1 t0 t1
    obtain ⟨p0, p1⟩ := box2 BP4.out
    obtain ⟨u0, u1⟩ := box2 BR4.out
    have t0 := BR4.out.thaw 0
    have t1 := BR4.out.thaw 1
    cases hg : okG ⟨x2 * 256 + x3, ST⟩
    · have E : Hid (rpD no x = none) := rp_bad HS.out (by rw [HX.out.2.2]; exact hg)
      clear hg
      go_wp2
      refine retG2 Tryz.results301 rfl rfl rfl (put2_box BR4.out _ _) ⟨?_, put2_below B4.out (Nat.le_refl _) _ _⟩
      rw [E.out]
      exact ⟨⟨0, none, 0, 0⟩, rfl, own_zero _ _ _ (Nat.le_refl _)⟩
    · have E : Hid (rpD no x = some ⟨x2 * 256 + x3, ST⟩) := by unfold Hid; rw [← HX.out.2.2]; exact rp_yes (by have := HXL.out; omega) HM.out HS.out (by rw [HX.out.2.2]; exact hg)
      clear hg
      go_wp2
      refine retG2 Tryz.results301 rfl rfl rfl (put2_box BR4.out _ _) ⟨?_, put2_below B4.out (Nat.le_refl _) _ _⟩
      rw [E.out]
      have := O4.out.put2 (r := w.heap.size) (.inl (by omega)) (.int .i64 (x2 * 256 + x3)) (.slice a2 ST.length c2)
      exact ⟨⟨x2 * 256 + x3, a2, ST.length, c2⟩, rfl, this.wide (B' := w.heap.size) (by omega)⟩
  · go_wp2_with fail
    refine (RF.out ⟨b, off + 4, none⟩ (by simp)).mono ?_
    rintro e w2 ⟨a2, c2, rfl, o2, hb⟩
    rw [← HST.out] at o2
    rw [← HST.out, ← HEC.out]
    have B2 : Hid (Below w.heap.size w w2) := B1.out.trans (hb.mono B1.out.size)
    have BR2 : Hid (Box w2 w.heap.size 140 #[.int .i64 0, .slice none 0 0]) := BR1.out.belowS hb
    have O2 : Hid (w2.ownsRow V1.heap.size 9 1 (.slice a2 ST.length c2) ST.length (ST.map Value.string)) := o2
    have f2 : w2.cell? ⟨b, off + 2, none⟩ = some (.int .u8 x2) := far6 hb e2
    have f3 : w2.cell? ⟨b, off + 3, none⟩ = some (.int .u8 x3) := far6 hb e3
    have q12 : V1.heap.size ≤ w2.heap.size := hb.size
    have hbl2 : b < w2.heap.size := World.block_lt_of_cell? w2 ⟨b, off + 2, none⟩ f2
    clear hb o2 e2 e3 y0 y1 u0 u1 t0 t1 em' RF
    go_wp2_with fail
    go_region
    obtain ⟨V3, hV3⟩ : ∃ W, (w2.alloc (.cells #[.int .i64 (x2 * 256 + x3), .slice a2 ST.length c2] 140)).drew = W := ⟨_, rfl⟩
    have hbv : Below w2.heap.size w2 V3 := by rw [← hV3]; exact ((Below.refl _ _).alloc (Nat.le_refl _) _).drew
    have B3 : Hid (Below w.heap.size w V3) := B2.out.trans (hbv.mono B2.out.size)
    have BR3 : Hid (Box V3 w.heap.size 140 #[.int .i64 0, .slice none 0 0]) := BR2.out.belowS hbv
    have BP3 : Hid (Box V3 w2.heap.size 140 #[.int .i64 (x2 * 256 + x3), .slice a2 ST.length c2]) := by unfold Hid; rw [← hV3]; exact Box.new w2 _ _
    have O3 : Hid (OwnG V3 V1.heap.size w2.heap.size ⟨x2 * 256 + x3, a2, ST.length, c2⟩ ⟨x2 * 256 + x3, ST⟩) := ⟨rfl, own_below O2.out hbv, hbv.size, fun g e => O2.out.lt g (by rw [ob_slice]; exact e)⟩
    rw [hV3]
    clear hV3 hbv B2 BR2 O2 f2 f3 hbl2
    obtain ⟨p0, p1⟩ := box2 BP3.out
    obtain ⟨u0, u1⟩ := box2 BR3.out
    have t0 := BR3.out.thaw 0
    have t1 := BR3.out.thaw 1
    rcases HOR.out with ⟨h0, hS⟩ | ⟨h3, hN, _⟩
    case inr =>
      have E : Hid (rpD no x = none) := rp_form hN
      rw [h3]
      clear HOR RW h3 hN
      go_wp2
      refine retG2 Tryz.results301 rfl rfl rfl (put2_box BR3.out _ _) ⟨?_, put2_below B3.out (Nat.le_refl _) _ _⟩
      rw [E.out]
      exact ⟨⟨0, none, 0, 0⟩, rfl, own_zero _ _ _ (Nat.le_refl _)⟩
    have HS : Hid (okR (x.drop 4) = some ST) := hS
    have hfit := RW.out h0
    have FT : Hid (FitG ⟨x2 * 256 + x3, ST⟩) := ⟨by have := hfit.1; show ST.length ≤ 1048576; omega, fun s h => by have := hfit.2 s h; omega⟩
    rw [h0]
    clear HOR RW h0 hS hfit
    go_wp2_with fail
    refine (c_implOK ⟨x2 * 256 + x3, a2, ST.length, c2⟩ ⟨x2 * 256 + x3, ST⟩ V3 O3.out.rd FT.out).mono ?_
    rintro e w4 ⟨rfl, hb⟩
    have B4 : Hid (Below w.heap.size w w4) := B3.out.trans (hb.mono B3.out.size)
    have BR4 : Hid (Box w4 w.heap.size 140 #[.int .i64 0, .slice none 0 0]) := BR3.out.belowS hb
    have BP4 : Hid (Box w4 w2.heap.size 140 #[.int .i64 (x2 * 256 + x3), .slice a2 ST.length c2]) := BP3.out.belowS hb
    have O4 : Hid (OwnG w4 V1.heap.size w2.heap.size ⟨x2 * 256 + x3, a2, ST.length, c2⟩ ⟨x2 * 256 + x3, ST⟩) := O3.out.below hb
    clear hb B3 BR3 BP3 O3 p0 p1 u0 u1 t0 t1
    obtain ⟨p0, p1⟩ := box2 BP4.out
    obtain ⟨u0, u1⟩ := box2 BR4.out
    have t0 := BR4.out.thaw 0
    have t1 := BR4.out.thaw 1
    cases hg : okG ⟨x2 * 256 + x3, ST⟩
    · have E : Hid (rpD no x = none) := rp_bad HS.out (by rw [HX.out.2.2]; exact hg)
      clear hg
      go_wp2
      refine retG2 Tryz.results301 rfl rfl rfl (put2_box BR4.out _ _) ⟨?_, put2_below B4.out (Nat.le_refl _) _ _⟩
      rw [E.out]
      exact ⟨⟨0, none, 0, 0⟩, rfl, own_zero _ _ _ (Nat.le_refl _)⟩
    · have E : Hid (rpD no x = some ⟨x2 * 256 + x3, ST⟩) := by unfold Hid; rw [← HX.out.2.2]; exact rp_yes (by have := HXL.out; omega) HM.out HS.out (by rw [HX.out.2.2]; exact hg)
      clear hg
      go_wp2
      refine retG2 Tryz.results301 rfl rfl rfl (put2_box BR4.out _ _) ⟨?_, put2_below B4.out (Nat.le_refl _) _ _⟩
      rw [E.out]
      have := O4.out.put2 (r := w.heap.size) (.inl (by omega)) (.int .i64 (x2 * 256 + x3)) (.slice a2 ST.length c2)
      exact ⟨⟨x2 * 256 + x3, a2, ST.length, c2⟩, rfl, this.wide (B' := w.heap.size) (by omega)⟩

end Go.Proofs.YtkpopingbbaomaaGreatDoor.G
