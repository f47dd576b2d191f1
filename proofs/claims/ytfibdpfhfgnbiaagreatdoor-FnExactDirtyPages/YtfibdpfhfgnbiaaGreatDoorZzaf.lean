/-
  Bytes whose sum stands behind them: the walk of the specification's own.
-/
import Derived.Test.YtfibdpfhfgnbiaaGreatDoorZzad
import Derived.Deep.RegionHeld3
import Derived.Deep.DrawnRows
import Derived.Test.YtfibdpfhfgnbiaaGreatDoorRcq
import Derived.Test.YtfibdpfhfgnbiaaGreatDoorZzae
import Derived.Deep.QuietTactic
import Derived.Deep.AppendLies
import Derived.Deep.RegionLawGrows
import Derived.Test.YtfibdpfhfgnbiaaGreatDoorRiq
namespace Go.Proofs.YtfibdpfhfgnbiaaGreatDoor
open Go Go.RowKit
attribute [local go_sem ↓] Go.wp_at_zero Go.wp_at_succ

/-- The marks of numbers: k0, k0 + 1, .. -/
def marksI (k0 n : Nat) : List Int := (List.range n).map fun i => ((k0 + i : Nat) : Int)
theorem marksI_get (k0 n k : Nat) (h : k < n) : ((marksI k0 n).map (Value.int .i64))[k]? = some (.int .i64 ((k0 + k : Nat) : Int)) := by
  unfold marksI; rw [List.getElem?_map, List.getElem?_map, List.getElem?_range h]; rfl
theorem marksI_len (k0 n : Nat) : ((marksI k0 n).map (Value.int .i64)).length = n := by simp [marksI]
set_option maxRecDepth 100000 in
set_option maxHeartbeats 1000000 in
theorem c_markI (base : Nat) (v : Value) (n k0 : Nat) (xs : List Value) (w : World) (hown : w.ownsRow base 3 1 v n xs) (hn : n ≤ 2097152) (hk : k0 ≤ 8388608) :
    Calls Tryz.prog 28 #[v, .int .i64 k0] w fun e w' => e = .returned (.int .i64 (k0 + n : Nat)) ∧ w'.ownsRow base 3 1 v n ((marksI k0 n).map (Value.int .i64)) ∧ w.grownBy w' v.ownBlock := by
  have hxl : xs.length = n := by simpa using hown.1
  rcases own_form hown with ⟨rfl, rfl⟩ | ⟨g, cap, rfl, hg1, hg2⟩
  · go_enter Tryz.func28, Tryz.ntmps28
    go_wp2
    refine wp_loop_rounds 1 ?_
    rw [rounds_succ]
    go_wp2
    go_ret
    exact ⟨by simp, by simpa [marksI] using World.ownsRow_nil w base 3 1, World.grownBy.refl _ _⟩
  · go_enter Tryz.func28, Tryz.ntmps28
    go_wp2
    go_loopw [1, 5] (fun m i wr => ∃ k : Nat, k ≤ n ∧ i = .int .i64 k ∧ m = .int .i64 ((k0 + k : Nat) : Int) ∧ wr.ownsRow base 3 1 (.slice (some ⟨g, 0, none⟩) n cap) n (mixV ((marksI k0 n).map (Value.int .i64)) xs k) ∧ w.grownBy wr (some g)) (fun _ i _ => n - (intOf i).toNat)
    case atStart => exact ⟨0, by omega, rfl, rfl, by rw [mixV_zero]; exact hown, World.grownBy.refl _ _⟩
    case round =>
      obtain ⟨k, hk, rfl, rfl, hown, hgr⟩ := hrel
      by_cases hlt : k < n
      · obtain ⟨old, hold⟩ : ∃ old, wr.cell? ⟨g, k, none⟩ = some old := by
          rw [hown.cellAt k (by omega)]
          exact ⟨_, List.getElem?_eq_getElem (by rw [hown.1]; omega)⟩
        have hfz := hown.frozenAt k
        obtain ⟨hown2, hgr2⟩ := hown.stored k (.int .i64 ((k0 : Int) + (k : Int)))
        rw [mixV_step _ _ n k _ hxl (marksI_len _ _) hlt (by rw [marksI_get _ _ _ hlt]; simp)] at hown2
        have HO : Hid (_) := hown2
        have HG : Hid (_) := hgr.trans hgr2
        clear hown2 hgr2
        go_wp2
        go_roundw
        case rel => exact ⟨k + 1, by omega, by go_num, by go_num, HO.out, HG.out⟩
        case measure => simp [intOf]; omega
      · have e : k = n := by omega
        subst e
        rw [mixV_full _ _ k hxl (marksI_len _ _)] at hown
        go_wp2
        go_ret
        exact ⟨rfl, hown, hgr⟩
set_option maxRecDepth 100000 in
set_option maxHeartbeats 1000000 in
theorem c_heldI (a : Option Addr) (n cap k0 : Nat) (w : World) (hr : RdV w a n ((marksI k0 n).map (Value.int .i64))) (hn : n ≤ 2097152) (hk : k0 ≤ 8388608) :
    Calls Tryz.prog 46 #[.slice a n cap, .int .i64 k0] w fun e w' => e = .returned (.int .i64 (k0 + n : Nat)) ∧ w' = w := by
  obtain ⟨hl, hcs⟩ := hr
  go_enter Tryz.func46, Tryz.ntmps46
  go_wp2
  go_loop [1, 5] (fun m i => ∃ k : Nat, k ≤ n ∧ i = .int .i64 k ∧ m = .int .i64 ((k0 + k : Nat) : Int)) (fun _ i => n - (intOf i).toNat)
  case atStart => exact ⟨0, by omega, rfl, rfl⟩
  case round =>
    obtain ⟨k, hk, rfl, rfl⟩ := hrel
    by_cases hlt : k < n
    · obtain ⟨b, off, rfl, _, hc⟩ := hcs (by omega)
      have hck : w.cell? ⟨b, off + k, none⟩ = some (.int .i64 ((k0 : Int) + (k : Int))) := by
        rw [hc k hlt, marksI_get _ _ _ hlt]; simp
      clear hc hcs
      go_wp2
      go_round
      case rel => exact ⟨k + 1, by omega, by go_num, by go_num⟩
      case measure => simp [intOf]; omega
    · have e : k = n := by omega
      subst e
      go_wp2
      go_ret
      exact ⟨rfl, rfl⟩
set_option maxRecDepth 100000 in
set_option maxHeartbeats 1000000 in
theorem c_szI (a : Option Addr) (n cap : Nat) (left : Int) (w : World) (hm : n ≤ maxLen) (h0 : 0 ≤ left) (h1 : left ≤ 1048576) :
    Calls Tryz.prog 176 #[.slice a n cap, .int .i64 left] w fun e w' => e = .returned (.int .i64 (if left - n < 0 then -1 else left - n)) ∧ w' = w := by
  unfold maxLen at hm
  by_cases hn : left - n < 0
  · rw [if_pos hn]
    go_enter Tryz.func176, Tryz.ntmps176
    go_wp2
    go_ret
    exact ⟨rfl, rfl⟩
  · rw [if_neg hn]
    go_enter Tryz.func176, Tryz.ntmps176
    go_wp2
    go_ret
    exact ⟨rfl, rfl⟩

/-! ### The marks of texts -/

end Go.Proofs.YtfibdpfhfgnbiaaGreatDoor
namespace Go.Proofs.YtfibdpfhfgnbiaaGreatDoor
open Go Go.RowKit
attribute [local go_sem ↓] Go.wp_at_zero Go.wp_at_succ


def cells2 (ps : List (Int × Int)) : List Value := ps.flatMap fun c => [.int .i64 c.1, .int .i64 c.2]
theorem cells2_append (us vs : List (Int × Int)) : cells2 (us ++ vs) = cells2 us ++ cells2 vs := by unfold cells2; rw [List.flatMap_append]
theorem cells2_len (ps : List (Int × Int)) : (cells2 ps).length = 2 * ps.length := by
  unfold cells2
  induction ps with
  | nil => rfl
  | cons c r ih => rw [List.flatMap_cons, List.length_append, ih]; simp; omega
theorem prs_succ (k : Nat) (r : List Int) : prs (k + 1) r = prs k r ++ [(r.getD (2 * k) 0, r.getD (2 * k + 1) 0)] := by
  unfold prs; rw [List.range_succ, List.map_append]; rfl
theorem prs_len (k : Nat) (r : List Int) : (prs k r).length = k := by simp [prs]
theorem infoC : (Tryz.prog.info? 368).map (fun i => (i.zero, i.size, i.bytes)) = some (some (Value.agg #[.int .i64 0, .int .i64 0]), 2, 16) := by kernel_rfl
theorem cells2w (w : World) (v0 v1 : Value) (t : TypeId) : ∀ j u, [v0, v1][j]? = some u → (w.alloc (.cells #[v0, v1] t)).cell? ((⟨w.heap.size, 0, none⟩ : Addr).add j) = some u := by
  intro j u h
  have hb := Box.new w #[v0, v1] t
  have e : (⟨w.heap.size, 0, none⟩ : Addr).add j = ⟨w.heap.size, j, none⟩ := by unfold Addr.add; split <;> simp_all
  rw [e, hb.cell]
  simpa using h
theorem ixS {t : ByteArray} {k : Nat} (z : Int) (i : Int) (hi : i = (k : Int)) (hlt : k < t.size) (hz : ((t[k]'hlt).toNat : Int) = z) (wx : World) : (Instr.index 9 (.string t) (.int .i64 i)).run Tryz.prog wx = .ok (.int .u8 z) wx := by
  subst hi
  have : (k : Int) < (t.size : Int) := by omega
  rw [run_index_string _ _ _ _ _ Tryz.underlying9, ← hz]
  simp [hlt]
set_option maxRecDepth 100000 in
set_option maxHeartbeats 4000000 in
theorem c_checked (zs : List Int) (w : World) (hz : ∀ z ∈ zs, 0 ≤ z ∧ z < 256) (hn : zs.length ≤ 9223372036854775807) :
    Calls Tryz.prog 306 #[.string (strOfNums zs)] w fun e w' => (match rc1 zs with
      | none => ∃ a n c s, e = .returned (.tuple #[.slice a n c, .string s, .bool false])
      | some (ps, r) => ∃ a c, e = .returned (.tuple #[.slice a ps.length c, .string (strOfNums r), .bool true]) ∧ w'.ownsRow w.heap.size 368 2 (.slice a ps.length c) ps.length (cells2 ps)) ∧ Below w.heap.size w w' := by
  obtain ⟨t, ht⟩ : ∃ t, t = strOfNums zs := ⟨_, rfl⟩
  have hts : t.size = zs.length := by rw [ht, strOfNums_size]
  cases zs with
  | nil =>
    have he : t.toList.isEmpty = true := by rw [ByteArray.toList_eq]; have : t.data.toList = [] := List.length_eq_zero_iff.1 (by simpa using hts); rw [this]; rfl
    rw [← ht]
    clear ht hz hts
    go_enter Tryz.func306, Tryz.ntmps306
    go_wp2
    go_ret3
    exact ⟨⟨_, _, _, _, rfl⟩, Below.refl _ _⟩
  | cons z r =>
    have he : t.toList.isEmpty = false := by
      rw [ByteArray.toList_eq]
      cases h : t.data.toList with
      | nil => have h2 := congrArg List.length h; simp at h2; simp at hts; rw [h2] at hts; simp at hts
      | cons => rfl
    have hz0 : 0 ≤ z ∧ z < 256 := hz z (by simp)
    obtain ⟨N, hN⟩ : ∃ N : Nat, (N : Int) = z := ⟨z.toNat, by omega⟩
    subst hN
    obtain ⟨u, hu⟩ : ∃ u, u = strOfNums r := ⟨_, rfl⟩
    have hus : u.size = r.length := by rw [hu, strOfNums_size]
    simp only [List.length_cons] at hts
    have x1 : t.extract 1 (r.length + 1) = u := by rw [ht, hu, son_cut]; simp
    have ix0 := ixS (t := t) (k := 0) (N : Int) 0 rfl (by omega) (by subst ht; exact son_get hz (p := 0) _)
    have HG : Hid (∀ p (h : p < u.size), ((u[p]'h).toNat : Int) = r.getD p 0) := by
      intro p h; subst hu; exact son_get (fun y hy => hz y (List.mem_cons_of_mem _ hy)) h
    have HU : Hid (u = strOfNums r) := hu
    have HB : Hid (∀ y ∈ r, 0 ≤ y ∧ y < 256) := fun y hy => hz y (List.mem_cons_of_mem _ hy)
    have hNN : (N : Int).toNat = N := by simp
    have z1 : (1 : Int) ≤ (t.size : Int) := by omega
    by_cases h1 : r.length < 2 * N
    · have E : Hid (rc1 ((N : Int) :: r) = none) := by unfold Hid; simp only [rc1]; rw [hNN, if_pos h1]
      rw [E.out, ← ht]
      have z2 : (u.size : Int) < 2 * (N : Int) := by omega
      clear ht hz hu
      go_enter Tryz.func306, Tryz.ntmps306
      go_wp2_with fail
      go_quiet (fail)
      go_wp2
      go_ret3
      exact ⟨⟨_, _, _, _, rfl⟩, below_drewN (Below.refl _ _) _⟩
    · have E : Hid (rc1 ((N : Int) :: r) = some (prs N r, r.drop (2 * N))) := by unfold Hid; simp only [rc1]; rw [hNN, if_neg h1]
      rw [E.out, ← ht]
      have z2 : ¬ (u.size : Int) < 2 * (N : Int) := by omega
      clear ht hz hu
      obtain ⟨i0, hi, hz0', hz1, hz2⟩ := info_parts infoC
      go_enter Tryz.func306, Tryz.ntmps306
      go_wp2_with fail
      go_quiet (fail)
      go_wp2
      go_loopw [2, 6, 20] (fun v _ j wr => ∃ k : Nat, k ≤ N ∧ j = .int .i64 k ∧ wr.ownsRow w.heap.size 368 2 v k (cells2 (prs k r)) ∧ Below w.heap.size w wr) (fun _ _ j _ => N - (intOf j).toNat)
      case atStart => exact ⟨0, Nat.zero_le _, rfl, World.ownsRow_nil _ _ _ _, below_drewN (Below.refl _ _) _⟩
      case round =>
        obtain ⟨k, hk, rfl, hown, hb⟩ := hrel
        obtain ⟨av, cv, hv⟩ := own_slice' hown
        subst hv
        have hbs : w.heap.size ≤ wr.heap.size := hb.size
        by_cases hlt : k < N
        · obtain ⟨x, hx⟩ : ∃ x, x = r.getD (2 * k) 0 := ⟨_, rfl⟩
          obtain ⟨y, hy⟩ : ∃ y, y = r.getD (2 * k + 1) 0 := ⟨_, rfl⟩
          have ixa := ixS (t := u) (k := 2 * k) x (2 * (k : Int)) (by omega) (by omega) (by rw [hx]; exact HG.out _ _)
          have ixb := ixS (t := u) (k := 2 * k + 1) y (2 * (k : Int) + 1) (by omega) (by omega) (by rw [hy]; exact HG.out _ _)
          have hxy : 0 ≤ x ∧ x < 256 ∧ 0 ≤ y ∧ y < 256 := by
            have h1 := HB.out x (by rw [hx, List.getD_eq_getElem?_getD, List.getElem?_eq_getElem (by omega)]; exact List.getElem_mem _)
            have h2 := HB.out y (by rw [hy, List.getD_eq_getElem?_getD, List.getElem?_eq_getElem (by omega)]; exact List.getElem_mem _)
            omega
          have hw1 : IntKind.i64.wrap (2 * (k : Int)) = 2 * (k : Int) := by rw [IntKind.wrap_i64]; omega
          have hw2 : IntKind.i64.wrap (2 * (k : Int) + 1) = 2 * (k : Int) + 1 := by rw [IntKind.wrap_i64]; omega
          have hw3 : IntKind.i64.wrap x = x := by rw [IntKind.wrap_i64]; omega
          have hw4 : IntKind.i64.wrap y = y := by rw [IntKind.wrap_i64]; omega
          have HP : Hid (prs (k + 1) r = prs k r ++ [(x, y)]) := by unfold Hid; rw [prs_succ, hx, hy]
          have HB0 : Hid (Below w.heap.size w wr) := hb
          have HO0 : Hid (wr.ownsRow w.heap.size 368 2 (.slice av k cv) k (cells2 (prs k r))) := hown
          clear hx hy hb hown
          go_wp2_with fail
          go_region_law (refine step_append_lies _ (by rfl) (.tmp 23) (.tmp 36) 344 (by rfl) w.heap.size 368 i0 (.agg #[.int .i64 0, .int .i64 0]) 2 16 Tryz.underlying344 hi hz0' hz1 hz2 rfl (by omega) (.slice av k cv) k (cells2 (prs k r)) (by rfl) (by exact HO0.out.alloc _) ⟨wr.heap.size, 0, none⟩ 1 1 [.int .i64 x, .int .i64 y] (by rfl) (by rfl) (by exact cells2w _ _ _ _) (by intro u hu; simp at hu; rcases hu with rfl | rfl <;> rfl) (by omega) (by unfold maxLen; omega) (by omega) (by simp; omega) _ rfl ?_; intro g2 c2 w2 o2 hg2 ha2 hl2)
          all_goals
            have hgA : (wr.alloc (.cells #[.int .i64 x, .int .i64 y] 368)).drew.grownBy w2 (Value.slice av k cv).ownBlock := hg2
            have hb2 : Below w.heap.size w w2 := (HB0.out.alloc HB0.out.size _).drew.grown hgA (by simp; omega) (fun b e => (HO0.out.lt b e).1)
            have ho2 : w2.ownsRow w.heap.size 368 2 (.slice (some ⟨g2, 0, none⟩) (k + 1) c2) (k + 1) (cells2 (prs (k + 1) r)) := by rw [HP.out, cells2_append]; exact o2
            clear o2 hg2 ha2 hl2 hgA ixa ixb
            go_wp2
            go_roundw
            case rel => exact ⟨k + 1, by omega, by go_num, ho2, hb2⟩
            case measure => simp [intOf]; omega
        · have e : k = N := by omega
          subst e
          have x2 : u.extract (2 * k) r.length = strOfNums (r.drop (2 * k)) := by
            rw [HU.out, son_cut, List.take_of_length_le (by simp)]
          have HL : Hid ((prs k r).length = k) := prs_len k r
          clear HU HG HB
          go_wp2_with fail
          go_quiet (fail)
          go_wp2
          go_ret3
          rw [HL.out, ← x2]
          exact ⟨⟨_, _, rfl, hown⟩, below_drewN hb _⟩
theorem cells2_get (ps : List (Int × Int)) (k : Nat) (h : k < ps.length) : (cells2 ps)[k * 2]? = some (.int .i64 (ps[k]'h).1) ∧ (cells2 ps)[k * 2 + 1]? = some (.int .i64 (ps[k]'h).2) := by
  induction ps generalizing k with
  | nil => simp at h
  | cons c r ih =>
    have e : cells2 (c :: r) = .int .i64 c.1 :: .int .i64 c.2 :: cells2 r := rfl
    cases k with
    | zero => rw [e]; simp
    | succ k =>
      rw [e, show (k + 1) * 2 = k * 2 + 1 + 1 by omega]
      simpa using ih k (by simpa using h)
theorem rg_step {ds : List (Int × Int)} {k : Nat} {lo hi l : Int} (h : k < ds.length) : rg (ds.drop k) lo hi l = (inB (ds[k]'h).1 lo hi && (inB (ds[k]'h).2 1 (l - 1) && rg (ds.drop (k + 1)) ((ds[k]'h).1 + 1) hi l)) := by
  rw [List.drop_eq_getElem_cons h]
  rfl
set_option maxRecDepth 100000 in
set_option maxHeartbeats 4000000 in
theorem c_right (base : Nat) (a : Option Addr) (c : Nat) (ps : List (Int × Int)) (lo hi l : Int) (w : World) (ho : w.ownsRow base 368 2 (.slice a ps.length c) ps.length (cells2 ps)) (hn : ps.length ≤ 255) (hps : ∀ p ∈ ps, 0 ≤ p.1 ∧ p.1 < 256) :
    Calls Tryz.prog 288 #[.slice a ps.length c, .int .i64 lo, .int .i64 hi, .int .i64 l] w fun e w' => e = .returned (.bool (rg ps lo hi l)) ∧ Below w.heap.size w w' := by
  have HO : Hid (w.ownsRow base 368 2 (.slice a ps.length c) ps.length (cells2 ps)) := ho
  have HP : Hid (∀ p ∈ ps, 0 ≤ p.1 ∧ p.1 < 256) := hps
  obtain ⟨n, hnn⟩ : ∃ n, n = ps.length := ⟨_, rfl⟩
  have HN : Hid (n = ps.length) := hnn
  rw [← hnn] at hn ⊢
  clear ho hps hnn
  go_enter Tryz.func288, Tryz.ntmps288
  go_wp2
  go_loopw [1, 10, 13] (fun lv _ j wr => ∃ (k : Nat) (lo' : Int), k ≤ n ∧ j = .int .i64 k ∧ lv = .int .i64 lo' ∧ Hid (rg ps lo hi l = rg (ps.drop k) lo' hi l) ∧ Below w.heap.size w wr) (fun _ _ j _ => n - (intOf j).toNat)
  case atStart => exact ⟨0, lo, Nat.zero_le _, rfl, rfl, rfl, Below.refl _ _⟩
  case round =>
    obtain ⟨k, lo', hk, rfl, rfl, HR, hb⟩ := hrel
    by_cases hlt : k < n
    · have hlt' : k < ps.length := by have := HN.out; omega
      obtain ⟨g, rfl⟩ : ∃ g, a = some ⟨g, 0, none⟩ := by
        rcases own_form HO.out with ⟨hv, h⟩ | ⟨g, cap, hv, _⟩
        · have := HN.out; omega
        · cases hv; exact ⟨g, rfl⟩
      obtain ⟨x, hx⟩ : ∃ x, x = (ps[k]'hlt').1 := ⟨_, rfl⟩
      obtain ⟨y, hy⟩ : ∃ y, y = (ps[k]'hlt').2 := ⟨_, rfl⟩
      have hg : g < w.heap.size := (HO.out.lt g rfl).2
      have c0 : wr.cell? ⟨g, k * 2, none⟩ = some (.int .i64 x) := by rw [hb.cell (p := ⟨g, k * 2, none⟩) hg, HO.out.cellAt (k * 2) (by omega), (cells2_get ps k hlt').1, hx]
      have c1 : wr.cell? ⟨g, k * 2 + 1, none⟩ = some (.int .i64 y) := by rw [hb.cell (p := ⟨g, k * 2 + 1, none⟩) hg, HO.out.cellAt (k * 2 + 1) (by omega), (cells2_get ps k hlt').2, hy]
      have hx0 : 0 ≤ x ∧ x < 256 := by rw [hx]; exact HP.out _ (List.getElem_mem _)
      have HS : Hid (rg ps lo hi l = (inB x lo' hi && (inB y 1 (l - 1) && rg (ps.drop (k + 1)) (x + 1) hi l))) := by unfold Hid; rw [HR.out, rg_step hlt', hx, hy]
      have hbs : w.heap.size ≤ wr.heap.size := hb.size
      clear HR hx hy hlt'
      by_cases a1 : x < lo'
      · go_wp2
        go_ret
        exact ⟨ret_bool (by rw [HS.out, show inB x lo' hi = false from decide_eq_false (by omega)]; rfl), hb.alloc hbs _⟩
      by_cases a2 : hi < x
      · go_wp2
        go_ret
        exact ⟨ret_bool (by rw [HS.out, show inB x lo' hi = false from decide_eq_false (by omega)]; rfl), hb.alloc hbs _⟩
      by_cases a3 : y < 1
      · go_wp2
        go_ret
        exact ⟨ret_bool (by rw [HS.out, show inB y 1 (l - 1) = false from decide_eq_false (by omega)]; simp), hb.alloc hbs _⟩
      by_cases a4 : l ≤ y
      · go_wp2
        go_ret
        exact ⟨ret_bool (by rw [HS.out, show inB y 1 (l - 1) = false from decide_eq_false (by omega)]; simp), hb.alloc hbs _⟩
      have HT : Hid (rg ps lo hi l = rg (ps.drop (k + 1)) (x + 1) hi l) := by
        unfold Hid
        rw [HS.out, show inB x lo' hi = true from decide_eq_true (by omega), show inB y 1 (l - 1) = true from decide_eq_true (by omega)]
        rfl
      clear HS
      go_wp2
      go_roundw
      case rel => exact ⟨k + 1, x + 1, by omega, by go_num, by go_num, HT, hb.alloc hbs _⟩
      case measure => simp [intOf]; omega
    · have E : Hid (rg ps lo hi l = true) := by unfold Hid; rw [HR.out, List.drop_of_length_le (by have := HN.out; omega)]; rfl
      clear HR
      go_wp2
      go_ret
      exact ⟨ret_bool E.out.symm, hb⟩

end Go.Proofs.YtfibdpfhfgnbiaaGreatDoor
namespace Go.Proofs.YtfibdpfhfgnbiaaGreatDoor
open Go Go.RowKit
attribute [local go_sem ↓] Go.wp_at_zero Go.wp_at_succ


theorem rc1_fit {zs r : List Int} {ps : List (Int × Int)} (hz : ∀ z ∈ zs, 0 ≤ z ∧ z < 256) (h : rc1 zs = some (ps, r)) : ps.length ≤ 255 ∧ (∀ p ∈ ps, 0 ≤ p.1 ∧ p.1 < 256) ∧ (∀ y ∈ r, 0 ≤ y ∧ y < 256) ∧ r.length ≤ zs.length := by
  cases zs with
  | nil => simp [rc1] at h
  | cons z t =>
    simp only [rc1] at h
    split at h
    · cases h
    · rename_i hl
      simp only [Option.some.injEq, Prod.mk.injEq] at h
      obtain ⟨rfl, rfl⟩ := h
      have hz0 := hz z (by simp)
      refine ⟨by rw [prs_len]; omega, fun p hp => ?_, fun y hy => hz y (List.mem_cons_of_mem _ (List.mem_of_mem_drop hy)), by simp; omega⟩
      unfold prs at hp
      obtain ⟨i, hi, rfl⟩ := List.mem_map.1 hp
      have hi' : i < z.toNat := List.mem_range.1 hi
      refine hz _ (List.mem_cons_of_mem _ ?_)
      show t.getD (2 * i) 0 ∈ t
      rw [List.getD_eq_getElem?_getD, List.getElem?_eq_getElem (by omega)]
      exact List.getElem_mem _
theorem rc2_none1 {zs : List Int} (h : rc1 zs = none) : rc2 zs = none := by unfold rc2; rw [h]
theorem rc2_none2 {zs r : List Int} {ps : List (Int × Int)} (h : rc1 zs = some (ps, r)) (h2 : rc1 r = none) : rc2 zs = none := by unfold rc2; rw [h]; simp only [h2]
theorem rc2_none3 {zs r r' : List Int} {ps ts : List (Int × Int)} (h : rc1 zs = some (ps, r)) (h2 : rc1 r = some (ts, r')) (h3 : r' ≠ []) : rc2 zs = none := by unfold rc2; rw [h]; simp only [h2, if_neg h3]
theorem rc2_some {zs r : List Int} {ps ts : List (Int × Int)} (h : rc1 zs = some (ps, r)) (h2 : rc1 r = some (ts, [])) : rc2 zs = some (ps, ts) := by unfold rc2; rw [h]; simp only [h2]; rfl
theorem c_chk0 {zs : List Int} (h : rc1 zs = none) (w : World) (hz : ∀ z ∈ zs, 0 ≤ z ∧ z < 256) (hn : zs.length ≤ 9223372036854775807) :
    Calls Tryz.prog 306 #[.string (strOfNums zs)] w fun e w' => (∃ a n c s, e = .returned (.tuple #[.slice a n c, .string s, .bool false])) ∧ Below w.heap.size w w' := by
  have := c_checked zs w hz hn
  rw [h] at this
  exact this
theorem c_chk1 {zs r : List Int} {ps : List (Int × Int)} (h : rc1 zs = some (ps, r)) (w : World) (hz : ∀ z ∈ zs, 0 ≤ z ∧ z < 256) (hn : zs.length ≤ 9223372036854775807) :
    Calls Tryz.prog 306 #[.string (strOfNums zs)] w fun e w' => (∃ a c, e = .returned (.tuple #[.slice a ps.length c, .string (strOfNums r), .bool true]) ∧ w'.ownsRow w.heap.size 368 2 (.slice a ps.length c) ps.length (cells2 ps)) ∧ Below w.heap.size w w' := by
  have := c_checked zs w hz hn
  rw [h] at this
  exact this
def AnsC (w : World) (zs : List Int) (e : Ending) (w' : World) : Prop :=
  (match rc2 zs with
    | none => ∃ a n c a' n' c', e = .returned (.tuple #[.slice a n c, .slice a' n' c', .bool false])
    | some (ps, ts) => ps.length ≤ 255 ∧ ts.length ≤ 255 ∧ (∀ p ∈ ps, 0 ≤ p.1 ∧ p.1 < 256) ∧ (∀ p ∈ ts, 0 ≤ p.1 ∧ p.1 < 256) ∧ ∃ a c a' c', e = .returned (.tuple #[.slice a ps.length c, .slice a' ts.length c', .bool true]) ∧ w'.ownsRow w.heap.size 368 2 (.slice a ps.length c) ps.length (cells2 ps) ∧ w'.ownsRow w.heap.size 368 2 (.slice a' ts.length c') ts.length (cells2 ts)) ∧ Below w.heap.size w w'
theorem ansC_none {w w' : World} {zs : List Int} {e : Ending} (h : rc2 zs = none) (he : ∃ a n c a' n' c', e = .returned (.tuple #[.slice a n c, .slice a' n' c', .bool false])) (hb : Below w.heap.size w w') : AnsC w zs e w' := by unfold AnsC; rw [h]; exact ⟨he, hb⟩
theorem ansC_some {w w' : World} {zs : List Int} {ps ts : List (Int × Int)} {e : Ending} (h : rc2 zs = some (ps, ts)) (he : ps.length ≤ 255 ∧ ts.length ≤ 255 ∧ (∀ p ∈ ps, 0 ≤ p.1 ∧ p.1 < 256) ∧ (∀ p ∈ ts, 0 ≤ p.1 ∧ p.1 < 256) ∧ ∃ a c a' c', e = .returned (.tuple #[.slice a ps.length c, .slice a' ts.length c', .bool true]) ∧ w'.ownsRow w.heap.size 368 2 (.slice a ps.length c) ps.length (cells2 ps) ∧ w'.ownsRow w.heap.size 368 2 (.slice a' ts.length c') ts.length (cells2 ts)) (hb : Below w.heap.size w w') : AnsC w zs e w' := by unfold AnsC; rw [h]; exact ⟨he, hb⟩
theorem son_empty {r : List Int} : (strOfNums r).toList.isEmpty = decide (r.length = 0) := by
  have h := (szE (strOfNums r))
  rw [strOfNums_size] at h
  cases r with
  | nil => simp only [List.length_nil, true_iff] at h; rw [h]; rfl
  | cons z r =>
    cases hh : (strOfNums (z :: r)).toList with
    | nil => rw [hh] at h; simp at h
    | cons => simp
set_option maxRecDepth 100000 in
set_option maxHeartbeats 4000000 in
theorem c_readCheck (zs : List Int) (w : World) (hz : ∀ z ∈ zs, 0 ≤ z ∧ z < 256) (hn : zs.length ≤ 9223372036854775807) :
    Calls Tryz.prog 287 #[.string (strOfNums zs)] w (AnsC w zs) := by
  obtain ⟨t, ht⟩ : ∃ t, t = strOfNums zs := ⟨_, rfl⟩
  cases h1 : rc1 zs with
  | none =>
    have E : Hid (rc2 zs = none) := rc2_none1 h1
    have CK : Hid (Calls Tryz.prog 306 #[.string t] w fun e w' => (∃ a n c s, e = .returned (.tuple #[.slice a n c, .string s, .bool false])) ∧ Below w.heap.size w w') := by unfold Hid; rw [ht]; exact c_chk0 h1 w hz hn
    rw [← ht]
    clear ht hz h1
    go_enter Tryz.func287, Tryz.ntmps287
    go_wp2_with fail
    refine CK.out.mono ?_
    rintro e w1 ⟨⟨a, n, c, s, rfl⟩, hb⟩
    clear CK
    go_wp2
    go_ret3
    exact ansC_none E.out ⟨_, _, _, _, _, _, rfl⟩ hb
  | some x =>
    obtain ⟨ps, r⟩ := x
    obtain ⟨f1, f2, f3, f4⟩ := rc1_fit hz h1
    have CK : Hid (Calls Tryz.prog 306 #[.string t] w fun e w' => (∃ a c, e = .returned (.tuple #[.slice a ps.length c, .string (strOfNums r), .bool true]) ∧ w'.ownsRow w.heap.size 368 2 (.slice a ps.length c) ps.length (cells2 ps)) ∧ Below w.heap.size w w') := by unfold Hid; rw [ht]; exact c_chk1 h1 w hz hn
    rw [← ht]
    have F2 : Hid (∀ p ∈ ps, 0 ≤ p.1 ∧ p.1 < 256) := f2
    clear ht hz f2
    obtain ⟨u, hu⟩ : ∃ u, u = strOfNums r := ⟨_, rfl⟩
    cases h2 : rc1 r with
    | none =>
      have E : Hid (rc2 zs = none) := rc2_none2 h1 h2
      have CL : Hid (∀ W, Calls Tryz.prog 306 #[.string u] W fun e w' => (∃ a n c s, e = .returned (.tuple #[.slice a n c, .string s, .bool false])) ∧ Below W.heap.size W w') := fun W => by rw [hu]; exact c_chk0 h2 W f3 (by omega)
      rw [← hu] at CK
      clear h1 h2 hu f3 f4
      go_enter Tryz.func287, Tryz.ntmps287
      go_wp2_with fail
      refine CK.out.mono ?_
      rintro e w1 ⟨⟨a, c, rfl, o1⟩, hb⟩
      have B1 : Hid (Below w.heap.size w w1) := hb
      clear CK o1 hb
      go_wp2_with fail
      refine (CL.out w1).mono ?_
      rintro e w2 ⟨⟨a2, n2, c2, s2, rfl⟩, hb⟩
      have B2 : Hid (Below w.heap.size w w2) := B1.out.trans (hb.mono B1.out.size)
      clear CL hb B1
      go_wp2
      go_ret3
      exact ansC_none E.out ⟨_, _, _, _, _, _, rfl⟩ B2.out
    | some y =>
      obtain ⟨ts, r'⟩ := y
      obtain ⟨g1, g2, g3, g4⟩ := rc1_fit f3 h2
      have G2 : Hid (∀ p ∈ ts, 0 ≤ p.1 ∧ p.1 < 256) := g2
      obtain ⟨v, hv⟩ : ∃ v, v = strOfNums r' := ⟨_, rfl⟩
      have he : v.toList.isEmpty = decide (r'.length = 0) := by rw [hv]; exact son_empty
      have CL : Hid (∀ W, Calls Tryz.prog 306 #[.string u] W fun e w' => (∃ a c, e = .returned (.tuple #[.slice a ts.length c, .string v, .bool true]) ∧ w'.ownsRow W.heap.size 368 2 (.slice a ts.length c) ts.length (cells2 ts)) ∧ Below W.heap.size W w') := fun W => by rw [hu, hv]; exact c_chk1 h2 W f3 (by omega)
      rw [← hu] at CK
      have E : Hid ((r'.length = 0 → rc2 zs = some (ps, ts)) ∧ (¬ r'.length = 0 → rc2 zs = none)) := ⟨fun h => by rw [List.length_eq_zero_iff.1 h] at h2; exact rc2_some h1 h2, fun h => rc2_none3 h1 h2 (fun e => h (by rw [e]; rfl))⟩
      clear h1 h2 hu hv f3 f4 g3 g4 g2
      go_enter Tryz.func287, Tryz.ntmps287
      go_wp2_with fail
      refine CK.out.mono ?_
      rintro e w1 ⟨⟨a, c, rfl, o1⟩, hb⟩
      have B1 : Hid (Below w.heap.size w w1) := hb
      have O1 : Hid (w1.ownsRow w.heap.size 368 2 (.slice a ps.length c) ps.length (cells2 ps)) := o1
      clear CK o1 hb
      go_wp2_with fail
      refine (CL.out w1).mono ?_
      rintro e w2 ⟨⟨a2, c2, rfl, o2⟩, hb⟩
      have B2 : Hid (Below w.heap.size w w2) := B1.out.trans (hb.mono B1.out.size)
      have O2 : Hid (w2.ownsRow w.heap.size 368 2 (.slice a ps.length c) ps.length (cells2 ps)) := own_below O1.out hb
      have O3 : Hid (w2.ownsRow w.heap.size 368 2 (.slice a2 ts.length c2) ts.length (cells2 ts)) := o2.down B1.out.size
      clear CL hb o2 B1 O1
      by_cases hr : r'.length = 0
      · have ee : v.toList.isEmpty = true := he.trans (decide_eq_true hr)
        have E2 : Hid (rc2 zs = some (ps, ts)) := E.out.1 hr
        clear he hr E
        go_wp2
        go_ret3
        exact ansC_some E2.out ⟨f1, g1, F2.out, G2.out, _, _, _, _, rfl, O2.out, O3.out⟩ B2.out
      · have ee : v.toList.isEmpty = false := he.trans (decide_eq_false hr)
        have E2 : Hid (rc2 zs = none) := E.out.2 hr
        clear he hr E
        go_wp2
        go_ret3
        exact ansC_none E2.out ⟨_, _, _, _, _, _, rfl⟩ B2.out
theorem nums_get (a : ByteArray) : strOfNums (numsT a) = a := by
  apply toList_inj
  rw [ByteArray.toList_eq, strOfNums_data]
  unfold numsT
  rw [List.map_map, ByteArray.toList_eq]
  conv => rhs; rw [← List.map_id a.data.toList]
  apply List.map_congr_left
  intro b _
  simp
theorem nums_bytes (a : ByteArray) : ∀ z ∈ numsT a, 0 ≤ z ∧ z < 256 := by
  intro z hz
  unfold numsT at hz
  obtain ⟨b, _, rfl⟩ := List.mem_map.1 hz
  have := b.toNat_lt
  omega
theorem nums_len (a : ByteArray) : (numsT a).length = a.size := by
  unfold numsT
  rw [List.length_map, ByteArray.toList_eq]
  simp

end Go.Proofs.YtfibdpfhfgnbiaaGreatDoor
namespace Go.Proofs.YtfibdpfhfgnbiaaGreatDoor
open Go Go.RowKit
attribute [local go_sem ↓] Go.wp_at_zero Go.wp_at_succ


set_option maxRecDepth 100000 in
set_option maxHeartbeats 2000000 in
theorem c_unsealS (zs : List Int) (w : World) (hz : ∀ z ∈ zs, 0 ≤ z ∧ z < 256) (hn : zs.length ≤ 65536) (h4 : 4 ≤ zs.length) :
    Calls Tryz.prog 265 #[.string (strOfNums zs)] w fun e w' => e = .returned (.tuple #[.string (unsT zs (unsB zs)), .bool (unsB zs)]) ∧ Below w.heap.size w w' := by
  obtain ⟨t, ht⟩ : ∃ t, t = strOfNums zs := ⟨_, rfl⟩
  obtain ⟨hd, hhd⟩ : ∃ t, t = strOfNums (headZ zs) := ⟨_, rfl⟩
  obtain ⟨tl, htl⟩ : ∃ t, t = strOfNums (tailZ zs) := ⟨_, rfl⟩
  obtain ⟨m, hm⟩ : ∃ m, m = zs.length - 4 := ⟨_, rfl⟩
  have hts : t.size = m + 4 := by rw [ht, strOfNums_size]; omega
  have x1 : t.extract 0 m = hd := by rw [ht, hhd, hm]; exact cut_head
  have x2 : t.extract m (m + 4) = tl := by rw [ht, htl, hm, show zs.length - 4 + 4 = zs.length by omega]; exact cut_tail
  obtain ⟨C, hC⟩ : ∃ C : Int, C = (Crc.crc (headZ zs) : Nat) := ⟨_, rfl⟩
  obtain ⟨O, hO⟩ : ∃ O : Int, O = ofL (tailZ zs) := ⟨_, rfl⟩
  have hcmp : (C != O) = !unsB zs := by rw [hC, hO]; exact of_sum h4 hz
  have hcv : ∀ W : World, (convert 9 237 (.string hd)).run Tryz.prog W = .ok (.slice (some ⟨W.heap.size, 0, none⟩) m (grownCap W m 0 5)) (W.drew.alloc (.cells (bytesRow hd (grownCap W m 0 5)) 5 ((bytesRow hd (grownCap W m 0 5)).size, (bytesRow hd (grownCap W m 0 5)).size + 1))) := fun W => by
    have hs : hd.size = m := by rw [hhd, strOfNums_size, headZ_len, hm]
    have := run_bytes_of_string (P := Tryz.prog) W 9 237 5 hd Tryz.underlying9 Tryz.underlying237 Tryz.underlying5
    rw [hs] at this
    exact this
  have CHK : Hid (∀ (c cp : Nat) (fr : Nat × Nat), Calls Tryz.prog 296 #[.slice (some ⟨w.heap.size, 0, none⟩) m cp] (w.alloc (.cells (bytesRow hd c) 5 fr)).drew.drew fun e w' => e = .returned (.int .i64 C) ∧ w' = (w.alloc (.cells (bytesRow hd c) 5 fr)).drew.drew) := fun c cp fr => by
    rw [hC, hhd]
    have hs : m = (headZ zs).length := by rw [headZ_len, hm]
    rw [hs]
    exact c14 _ _ cp (headZ zs) _ (conv_rd (head_bytes hz)) (by rw [headZ_len]; omega)
  have OFF : Hid (∀ W : World, Calls Tryz.prog 267 #[.string tl] W fun e w' => e = .returned (.int .i64 O) ∧ w' = W) := fun W => by
    rw [hO, htl]
    exact c_of (tailZ zs) W (fun z h => hz z (List.mem_of_mem_drop h)) (by unfold tailZ; rw [List.length_drop]; omega)
  have HH : Hid (hd = strOfNums (headZ zs)) := hhd
  have hmb : m ≤ 65536 := by omega
  rw [← ht]
  clear hz ht hhd htl hC hO h4 hm hn
  have z0 : ¬ (m : Int) < 0 := by omega
  have z1 : (0 : Int) ≤ (m : Int) := by omega
  have z2 : (m : Int) ≤ (m : Int) + 4 := by omega
  cases hu : unsB zs
  all_goals
    rw [hu] at hcmp
    go_enter Tryz.func265, Tryz.ntmps265
    go_wp2_with fail
    go_region_held (fun _ => True) (trivial) (first
        | (go_at_call 296; refine (CHK.out _ _ _).mono ?_; rintro e w1 ⟨rfl, hq1⟩; have B1 : Hid (Below w.heap.size w w1) := (by unfold Hid; rw [hq1]; exact ((Below.refl _ _).alloc (Nat.le_refl _) _).drew.drew); clear hq1)
        | (go_at_call 267; refine (OFF.out _).mono ?_; rintro e w2 ⟨rfl, hq2⟩; have B2 : Hid (Below w.heap.size w w2) := (by unfold Hid; rw [hq2]; exact B1.out); clear hq2))
    clear hcv CHK OFF
    go_wp2
    go_ret2
    exact ⟨by first | rfl | (unfold unsT; rw [← HH.out]; rfl), B2.out⟩

end Go.Proofs.YtfibdpfhfgnbiaaGreatDoor
