/-
  Records of the log: what a checkpoint tells, the program's way.
-/
import Derived.Test.YtimdoaehlciecaaRc
import Derived.Test.YtimdoaehlciecaaSn
import Derived.Deep.QuietTactic
import Derived.Deep.RegionHeld3
import Derived.Deep.AppendLies
import Derived.Deep.RegionLawGrows
namespace Go.Proofs.Ytimdoaehlciecaa
open Go Go.RowKit
attribute [local go_sem ↓] Go.wp_at_zero Go.wp_at_succ


def cells2 (ps : List (Int × Int)) : List Value := ps.flatMap fun c => [.int .i64 c.1, .int .i64 c.2]
theorem cells2_append (us vs : List (Int × Int)) : cells2 (us ++ vs) = cells2 us ++ cells2 vs := by unfold cells2; rw [List.flatMap_append]
theorem cells2_len (ps : List (Int × Int)) : (cells2 ps).length = 2 * ps.length := by
  unfold cells2
  induction ps with
  | nil => rfl
  | cons c r ih => rw [List.flatMap_cons, List.length_append, ih]; simp; omega
theorem prs_succ (k : Nat) (r : List Int) : prs (k + 1) r = prs k r ++ [(r.getD (2 * k) 0, r.getD (2 * k + 1) 0)] := by
  unfold prs; rw [List.range_succ, List.map_append]; rfl
theorem prs_len (k : Nat) (r : List Int) : (prs k r).length = k := by simp [prs]
theorem infoC : (Try.prog.info? 82).map (fun i => (i.zero, i.size, i.bytes)) = some (some (Value.agg #[.int .i64 0, .int .i64 0]), 2, 16) := by kernel_rfl
theorem cells2w (w : World) (v0 v1 : Value) (t : TypeId) : ∀ j u, [v0, v1][j]? = some u → (w.alloc (.cells #[v0, v1] t)).cell? ((⟨w.heap.size, 0, none⟩ : Addr).add j) = some u := by
  intro j u h
  have hb := Box.new w #[v0, v1] t
  have e : (⟨w.heap.size, 0, none⟩ : Addr).add j = ⟨w.heap.size, j, none⟩ := by unfold Addr.add; split <;> simp_all
  rw [e, hb.cell]
  simpa using h
theorem ixS {t : ByteArray} {k : Nat} (z : Int) (i : Int) (hi : i = (k : Int)) (hlt : k < t.size) (hz : ((t[k]'hlt).toNat : Int) = z) (wx : World) : (Instr.index 9 (.string t) (.int .i64 i)).run Try.prog wx = .ok (.int .u8 z) wx := by
  subst hi
  have : (k : Int) < (t.size : Int) := by omega
  rw [run_index_string _ _ _ _ _ Try.underlying9, ← hz]
  simp [hlt]
set_option maxRecDepth 100000 in
set_option maxHeartbeats 4000000 in
theorem c_checked (zs : List Int) (w : World) (hz : ∀ z ∈ zs, 0 ≤ z ∧ z < 256) (hn : zs.length ≤ 9223372036854775807) :
    Calls Try.prog 48 #[.string (strOfNums zs)] w fun e w' => (match rc1 zs with
      | none => ∃ a n c s, e = .returned (.tuple #[.slice a n c, .string s, .bool false])
      | some (ps, r) => ∃ a c, e = .returned (.tuple #[.slice a ps.length c, .string (strOfNums r), .bool true]) ∧ w'.ownsRow w.heap.size 82 2 (.slice a ps.length c) ps.length (cells2 ps)) ∧ Below w.heap.size w w' := by
  obtain ⟨t, ht⟩ : ∃ t, t = strOfNums zs := ⟨_, rfl⟩
  have hts : t.size = zs.length := by rw [ht, strOfNums_size]
  cases zs with
  | nil =>
    have he : t.toList.isEmpty = true := by rw [ByteArray.toList_eq]; have : t.data.toList = [] := List.length_eq_zero_iff.1 (by simpa using hts); rw [this]; rfl
    rw [← ht]
    clear ht hz hts
    go_enter Try.func48, Try.ntmps48
    go_wp2
    go_ret3
    exact ⟨⟨_, _, _, _, rfl⟩, Below.refl _ _⟩
  | cons z r =>
    have he : t.toList.isEmpty = false := by
      rw [ByteArray.toList_eq]
      cases h : t.data.toList with
      | nil => have h2 := congrArg List.length h; simp at h2; simp at hts; rw [h2] at hts; simp at hts
      | cons => rfl
    have hz0 : 0 ≤ z ∧ z < 256 := hz z (by simp)
    obtain ⟨N, hN⟩ : ∃ N : Nat, (N : Int) = z := ⟨z.toNat, by omega⟩
    subst hN
    obtain ⟨u, hu⟩ : ∃ u, u = strOfNums r := ⟨_, rfl⟩
    have hus : u.size = r.length := by rw [hu, strOfNums_size]
    simp only [List.length_cons] at hts
    have x1 : t.extract 1 (r.length + 1) = u := by rw [ht, hu, son_cut]; simp
    have ix0 := ixS (t := t) (k := 0) (N : Int) 0 rfl (by omega) (by subst ht; exact son_get hz (p := 0) _)
    have HG : Hid (∀ p (h : p < u.size), ((u[p]'h).toNat : Int) = r.getD p 0) := by
      intro p h; subst hu; exact son_get (fun y hy => hz y (List.mem_cons_of_mem _ hy)) h
    have HU : Hid (u = strOfNums r) := hu
    have HB : Hid (∀ y ∈ r, 0 ≤ y ∧ y < 256) := fun y hy => hz y (List.mem_cons_of_mem _ hy)
    have hNN : (N : Int).toNat = N := by simp
    have z1 : (1 : Int) ≤ (t.size : Int) := by omega
    by_cases h1 : r.length < 2 * N
    · have E : Hid (rc1 ((N : Int) :: r) = none) := by unfold Hid; simp only [rc1]; rw [hNN, if_pos h1]
      rw [E.out, ← ht]
      have z2 : (u.size : Int) < 2 * (N : Int) := by omega
      clear ht hz hu
      go_enter Try.func48, Try.ntmps48
      go_wp2_with fail
      go_quiet (fail)
      go_wp2
      go_ret3
      exact ⟨⟨_, _, _, _, rfl⟩, below_drewN (Below.refl _ _) _⟩
    · have E : Hid (rc1 ((N : Int) :: r) = some (prs N r, r.drop (2 * N))) := by unfold Hid; simp only [rc1]; rw [hNN, if_neg h1]
      rw [E.out, ← ht]
      have z2 : ¬ (u.size : Int) < 2 * (N : Int) := by omega
      clear ht hz hu
      obtain ⟨i0, hi, hz0', hz1, hz2⟩ := info_parts infoC
      go_enter Try.func48, Try.ntmps48
      go_wp2_with fail
      go_quiet (fail)
      go_wp2
      go_loopw [2, 6, 20] (fun v _ j wr => ∃ k : Nat, k ≤ N ∧ j = .int .i64 k ∧ wr.ownsRow w.heap.size 82 2 v k (cells2 (prs k r)) ∧ Below w.heap.size w wr) (fun _ _ j _ => N - (intOf j).toNat)
      case atStart => exact ⟨0, Nat.zero_le _, rfl, World.ownsRow_nil _ _ _ _, below_drewN (Below.refl _ _) _⟩
      case round =>
        obtain ⟨k, hk, rfl, hown, hb⟩ := hrel
        obtain ⟨av, cv, hv⟩ := own_slice' hown
        subst hv
        have hbs : w.heap.size ≤ wr.heap.size := hb.size
        by_cases hlt : k < N
        · obtain ⟨x, hx⟩ : ∃ x, x = r.getD (2 * k) 0 := ⟨_, rfl⟩
          obtain ⟨y, hy⟩ : ∃ y, y = r.getD (2 * k + 1) 0 := ⟨_, rfl⟩
          have ixa := ixS (t := u) (k := 2 * k) x (2 * (k : Int)) (by omega) (by omega) (by rw [hx]; exact HG.out _ _)
          have ixb := ixS (t := u) (k := 2 * k + 1) y (2 * (k : Int) + 1) (by omega) (by omega) (by rw [hy]; exact HG.out _ _)
          have hxy : 0 ≤ x ∧ x < 256 ∧ 0 ≤ y ∧ y < 256 := by
            have h1 := HB.out x (by rw [hx, List.getD_eq_getElem?_getD, List.getElem?_eq_getElem (by omega)]; exact List.getElem_mem _)
            have h2 := HB.out y (by rw [hy, List.getD_eq_getElem?_getD, List.getElem?_eq_getElem (by omega)]; exact List.getElem_mem _)
            omega
          have hw1 : IntKind.i64.wrap (2 * (k : Int)) = 2 * (k : Int) := by rw [IntKind.wrap_i64]; omega
          have hw2 : IntKind.i64.wrap (2 * (k : Int) + 1) = 2 * (k : Int) + 1 := by rw [IntKind.wrap_i64]; omega
          have hw3 : IntKind.i64.wrap x = x := by rw [IntKind.wrap_i64]; omega
          have hw4 : IntKind.i64.wrap y = y := by rw [IntKind.wrap_i64]; omega
          have HP : Hid (prs (k + 1) r = prs k r ++ [(x, y)]) := by unfold Hid; rw [prs_succ, hx, hy]
          have HB0 : Hid (Below w.heap.size w wr) := hb
          have HO0 : Hid (wr.ownsRow w.heap.size 82 2 (.slice av k cv) k (cells2 (prs k r))) := hown
          clear hx hy hb hown
          go_wp2_with fail
          go_region_law (refine step_append_lies _ (by rfl) (.tmp 23) (.tmp 36) 76 (by rfl) w.heap.size 82 i0 (.agg #[.int .i64 0, .int .i64 0]) 2 16 Try.underlying76 hi hz0' hz1 hz2 rfl (by omega) (.slice av k cv) k (cells2 (prs k r)) (by rfl) (by exact HO0.out.alloc _) ⟨wr.heap.size, 0, none⟩ 1 1 [.int .i64 x, .int .i64 y] (by rfl) (by rfl) (by exact cells2w _ _ _ _) (by intro u hu; simp at hu; rcases hu with rfl | rfl <;> rfl) (by omega) (by unfold maxLen; omega) (by omega) (by simp; omega) _ rfl ?_; intro g2 c2 w2 o2 hg2 ha2 hl2)
          all_goals
            have hgA : (wr.alloc (.cells #[.int .i64 x, .int .i64 y] 82)).drew.grownBy w2 (Value.slice av k cv).ownBlock := hg2
            have hb2 : Below w.heap.size w w2 := (HB0.out.alloc HB0.out.size _).drew.grown hgA (by simp; omega) (fun b e => (HO0.out.lt b e).1)
            have ho2 : w2.ownsRow w.heap.size 82 2 (.slice (some ⟨g2, 0, none⟩) (k + 1) c2) (k + 1) (cells2 (prs (k + 1) r)) := by rw [HP.out, cells2_append]; exact o2
            clear o2 hg2 ha2 hl2 hgA ixa ixb
            go_wp2
            go_roundw
            case rel => exact ⟨k + 1, by omega, by go_num, ho2, hb2⟩
            case measure => simp [intOf]; omega
        · have e : k = N := by omega
          subst e
          have x2 : u.extract (2 * k) r.length = strOfNums (r.drop (2 * k)) := by
            rw [HU.out, son_cut, List.take_of_length_le (by simp)]
          have HL : Hid ((prs k r).length = k) := prs_len k r
          clear HU HG HB
          go_wp2_with fail
          go_quiet (fail)
          go_wp2
          go_ret3
          rw [HL.out, ← x2]
          exact ⟨⟨_, _, rfl, hown⟩, below_drewN hb _⟩
theorem cells2_get (ps : List (Int × Int)) (k : Nat) (h : k < ps.length) : (cells2 ps)[k * 2]? = some (.int .i64 (ps[k]'h).1) ∧ (cells2 ps)[k * 2 + 1]? = some (.int .i64 (ps[k]'h).2) := by
  induction ps generalizing k with
  | nil => simp at h
  | cons c r ih =>
    have e : cells2 (c :: r) = .int .i64 c.1 :: .int .i64 c.2 :: cells2 r := rfl
    cases k with
    | zero => rw [e]; simp
    | succ k =>
      rw [e, show (k + 1) * 2 = k * 2 + 1 + 1 by omega]
      simpa using ih k (by simpa using h)
theorem rg_step {ds : List (Int × Int)} {k : Nat} {lo hi l : Int} (h : k < ds.length) : rg (ds.drop k) lo hi l = (inB (ds[k]'h).1 lo hi && (inB (ds[k]'h).2 1 (l - 1) && rg (ds.drop (k + 1)) ((ds[k]'h).1 + 1) hi l)) := by
  rw [List.drop_eq_getElem_cons h]
  rfl
set_option maxRecDepth 100000 in
set_option maxHeartbeats 4000000 in
theorem c_right (base : Nat) (a : Option Addr) (c : Nat) (ps : List (Int × Int)) (lo hi l : Int) (w : World) (ho : w.ownsRow base 82 2 (.slice a ps.length c) ps.length (cells2 ps)) (hn : ps.length ≤ 255) (hps : ∀ p ∈ ps, 0 ≤ p.1 ∧ p.1 < 256) :
    Calls Try.prog 45 #[.slice a ps.length c, .int .i64 lo, .int .i64 hi, .int .i64 l] w fun e w' => e = .returned (.bool (rg ps lo hi l)) ∧ Below w.heap.size w w' := by
  have HO : Hid (w.ownsRow base 82 2 (.slice a ps.length c) ps.length (cells2 ps)) := ho
  have HP : Hid (∀ p ∈ ps, 0 ≤ p.1 ∧ p.1 < 256) := hps
  obtain ⟨n, hnn⟩ : ∃ n, n = ps.length := ⟨_, rfl⟩
  have HN : Hid (n = ps.length) := hnn
  rw [← hnn] at hn ⊢
  clear ho hps hnn
  go_enter Try.func45, Try.ntmps45
  go_wp2
  go_loopw [1, 10, 13] (fun lv _ j wr => ∃ (k : Nat) (lo' : Int), k ≤ n ∧ j = .int .i64 k ∧ lv = .int .i64 lo' ∧ Hid (rg ps lo hi l = rg (ps.drop k) lo' hi l) ∧ Below w.heap.size w wr) (fun _ _ j _ => n - (intOf j).toNat)
  case atStart => exact ⟨0, lo, Nat.zero_le _, rfl, rfl, rfl, Below.refl _ _⟩
  case round =>
    obtain ⟨k, lo', hk, rfl, rfl, HR, hb⟩ := hrel
    by_cases hlt : k < n
    · have hlt' : k < ps.length := by have := HN.out; omega
      obtain ⟨g, rfl⟩ : ∃ g, a = some ⟨g, 0, none⟩ := by
        rcases own_form HO.out with ⟨hv, h⟩ | ⟨g, cap, hv, _⟩
        · have := HN.out; omega
        · cases hv; exact ⟨g, rfl⟩
      obtain ⟨x, hx⟩ : ∃ x, x = (ps[k]'hlt').1 := ⟨_, rfl⟩
      obtain ⟨y, hy⟩ : ∃ y, y = (ps[k]'hlt').2 := ⟨_, rfl⟩
      have hg : g < w.heap.size := (HO.out.lt g rfl).2
      have c0 : wr.cell? ⟨g, k * 2, none⟩ = some (.int .i64 x) := by rw [hb.cell (p := ⟨g, k * 2, none⟩) hg, HO.out.cellAt (k * 2) (by omega), (cells2_get ps k hlt').1, hx]
      have c1 : wr.cell? ⟨g, k * 2 + 1, none⟩ = some (.int .i64 y) := by rw [hb.cell (p := ⟨g, k * 2 + 1, none⟩) hg, HO.out.cellAt (k * 2 + 1) (by omega), (cells2_get ps k hlt').2, hy]
      have hx0 : 0 ≤ x ∧ x < 256 := by rw [hx]; exact HP.out _ (List.getElem_mem _)
      have HS : Hid (rg ps lo hi l = (inB x lo' hi && (inB y 1 (l - 1) && rg (ps.drop (k + 1)) (x + 1) hi l))) := by unfold Hid; rw [HR.out, rg_step hlt', hx, hy]
      have hbs : w.heap.size ≤ wr.heap.size := hb.size
      clear HR hx hy hlt'
      by_cases a1 : x < lo'
      · go_wp2
        go_ret
        exact ⟨ret_bool (by rw [HS.out, show inB x lo' hi = false from decide_eq_false (by omega)]; rfl), hb.alloc hbs _⟩
      by_cases a2 : hi < x
      · go_wp2
        go_ret
        exact ⟨ret_bool (by rw [HS.out, show inB x lo' hi = false from decide_eq_false (by omega)]; rfl), hb.alloc hbs _⟩
      by_cases a3 : y < 1
      · go_wp2
        go_ret
        exact ⟨ret_bool (by rw [HS.out, show inB y 1 (l - 1) = false from decide_eq_false (by omega)]; simp), hb.alloc hbs _⟩
      by_cases a4 : l ≤ y
      · go_wp2
        go_ret
        exact ⟨ret_bool (by rw [HS.out, show inB y 1 (l - 1) = false from decide_eq_false (by omega)]; simp), hb.alloc hbs _⟩
      have HT : Hid (rg ps lo hi l = rg (ps.drop (k + 1)) (x + 1) hi l) := by
        unfold Hid
        rw [HS.out, show inB x lo' hi = true from decide_eq_true (by omega), show inB y 1 (l - 1) = true from decide_eq_true (by omega)]
        rfl
      clear HS
      go_wp2
      go_roundw
      case rel => exact ⟨k + 1, x + 1, by omega, by go_num, by go_num, HT, hb.alloc hbs _⟩
      case measure => simp [intOf]; omega
    · have E : Hid (rg ps lo hi l = true) := by unfold Hid; rw [HR.out, List.drop_of_length_le (by have := HN.out; omega)]; rfl
      clear HR
      go_wp2
      go_ret
      exact ⟨ret_bool E.out.symm, hb⟩

end Go.Proofs.Ytimdoaehlciecaa
