/-
  slices.Grow and slices.Concat over branches.
-/
import Derived.Test.YthnggpjgajkaeaaPd
import Derived.Lib.AppendZeros
namespace Go.Proofs.Ythnggpjgajkaeaa
open Go Go.RowKit
attribute [local go_sem ↓] Go.wp_at_zero Go.wp_at_succ

theorem wp_growP (w : World) {ops : Array Oper} {rest : List Oper} {o : Oper} {a : Act} {Q : Exit → Act → World → Prop}
    (hg : o.guard = none) (s x : Operand) (hop : o.op = .call { callee := .builtin .append, args := #[s, x], argTypes := #[84, 3] }) (hs : a.eval s = .slice none 0 0) (n : Nat) (hx : a.eval x = .int .i64 (n : Int)) (h0 : 0 < n) (hn : n ≤ 10000000)
    (hK : ∀ cap w', n ≤ cap → Below w.heap.size w w' → w'.ownsRow w.heap.size 57 1 (.slice (some ⟨w.heap.size, 0, none⟩) 0 cap) 0 (([] : List Value)) → wpList Try.prog ops Q rest (a.put o.dst (.slice (some ⟨w.heap.size, 0, none⟩) n cap)) w') : wpList Try.prog ops Q (o :: rest) a w := by
  refine wpList_plain hg fun K' hK' => ?_
  obtain ⟨i0, hi, hz0, hz1, hz2⟩ := info_parts infoPtr
  have hrun := Lib.run_append_nil_zeros (P := Try.prog) w 84 3 o.type 57 i0 (.pointer none) .i64 .i64 Try.underlying84 Try.underlying3 hi hz0 n h0 (by rw [hz1]; omega) (by omega) (by rw [hz2]; omega)
  have hge := grownCap_ge w n 0 57
  have hle := grownCap_le_maxLen w n 0 57 (by unfold maxLen; omega)
  unfold Oper.wp
  simp [execOp, hop, resolve, invoke, builtin, hs, hx, hrun, Result.andThen]
  refine hK' _ _ (hK _ _ hge ((Below.refl _ _).drew.alloc (Nat.le_refl _) _) ⟨rfl, .inr ⟨w.heap.size, _, _, rfl, Nat.le_refl _, Box.new w.drew _ _, Nat.zero_le _, hle, ?_, by simp⟩⟩)
  rw [Array.size_append, size_zeroCells, size_zeroCells]
  show n * 1 + (grownCap w n 0 57 - n) * 1 = grownCap w n 0 57 * 1
  omega
set_option maxRecDepth 100000 in
set_option maxHeartbeats 8000000 in
theorem c_growP (n : Nat) (w : World) (hn : n ≤ 10000000) :
    Calls Try.prog 100 #[.slice none 0 0, .int .i64 (n : Int)] w fun e w' => (∃ ha hc, e = .returned (.slice ha 0 hc) ∧ w'.ownsRow w.heap.size 57 1 (.slice ha 0 hc) 0 (([] : List Value))) ∧ Below w.heap.size w w' := by
  by_cases h0 : 0 < n
  · have c1 : ¬ (n : Int) < 0 := by omega
    have c2 : (0 : Int) < (n : Int) := by omega
    go_enter Try.func100, Try.ntmps100
    go_wp2_with (refine wp_growP _ rfl (.tmp 20) (.tmp 21) rfl rfl n rfl h0 hn ?_; intro cap w1 hcap hb ho)
    go_wp2
    go_ret
    exact ⟨⟨_, cap, rfl, ho⟩, hb⟩
  · have e : n = 0 := by omega
    subst e
    go_enter Try.func100, Try.ntmps100
    go_wp2
    go_ret
    exact ⟨⟨none, 0, rfl, World.ownsRow_nil _ _ _ _⟩, Below.refl _ _⟩
def tot (n0 n1 k : Nat) : Nat := if k = 0 then 0 else if k = 1 then n0 else n0 + n1
def cat2 (us vs : List Nat) (k : Nat) : List Nat := if k = 0 then [] else if k = 1 then us else us ++ vs
set_option maxRecDepth 100000 in
set_option maxHeartbeats 8000000 in
theorem c_concatP (g : Nat) (a0 : Option Addr) (n0 c0 : Nat) (us : List Nat) (a1 : Option Addr) (n1 c1 : Nat) (vs : List Nat) (w : World) (hg : Box w g 84 #[.slice a0 n0 c0, .slice a1 n1 c1]) (r0 : RdV w a0 n0 (us.map ptr)) (r1 : RdV w a1 n1 (vs.map ptr)) (f0 : n0 ≤ 1048576) (f1 : n1 ≤ 1048576) (s0 : a0 = none → n0 = 0 ∧ c0 = 0) (s1 : a1 = none → n1 = 0 ∧ c1 = 0) :
    Calls Try.prog 88 #[.slice (some ⟨g, 0, none⟩) 2 2] w fun e w' => (∃ ha hc, e = .returned (.slice ha (us ++ vs).length hc) ∧ w'.ownsRow w.heap.size 57 1 (.slice ha (us ++ vs).length hc) (us ++ vs).length ((us ++ vs).map ptr)) ∧ Below w.heap.size w w' := by
  have HG : Hid (Box w g 84 #[.slice a0 n0 c0, .slice a1 n1 c1]) := hg
  have l0 : us.length = n0 := by have := r0.1; rwa [List.length_map] at this
  have l1 : vs.length = n1 := by have := r1.1; rwa [List.length_map] at this
  obtain ⟨i0, hi, hz0, hz1, hz2⟩ := info_parts infoPtr
  have HK : Hid (∀ k, k < 2 → ∃ (ak : Option Addr) (nk ck : Nat) (Lk : List Nat), w.cell? ⟨g, k, none⟩ = some (.slice ak nk ck) ∧ tot n0 n1 (k + 1) = tot n0 n1 k + nk ∧ cat2 us vs (k + 1) = cat2 us vs k ++ Lk ∧ RdV w ak nk (Lk.map ptr) ∧ nk ≤ 1048576 ∧ (ak = none → nk = 0 ∧ ck = 0)) := fun k hk => by
    have q0 : w.cell? ⟨g, 0, none⟩ = some (.slice a0 n0 c0) := hg.cell 0
    have q1 : w.cell? ⟨g, 1, none⟩ = some (.slice a1 n1 c1) := hg.cell 1
    have : k = 0 ∨ k = 1 := by omega
    rcases this with rfl | rfl
    · exact ⟨a0, n0, c0, us, q0, by simp [tot], by simp [cat2], r0, f0, s0⟩
    · exact ⟨a1, n1, c1, vs, q1, by simp [tot], by simp [cat2], r1, f1, s1⟩
  have HT : Hid (∀ k, k ≤ 2 → tot n0 n1 k ≤ 2097152) := fun k _ => by unfold tot; split; omega; split <;> omega
  have HC : Hid (∀ k, k ≤ 2 → (cat2 us vs k).length ≤ 2097152) := fun k _ => by unfold cat2; split; simp; split; omega; simp; omega
  clear hg r0 r1 s0 s1 l0 l1
  go_enter Try.func88, Try.ntmps88
  go_wp2
  go_loopw [3, 11] (fun s i wr => ∃ k : Nat, k ≤ 2 ∧ i = .int .i64 (k : Int) ∧ s = .int .i64 ((tot n0 n1 k : Nat) : Int) ∧ wr = w) (fun _ i _ => 2 - (intOf i).toNat)
  case atStart => exact ⟨0, by omega, rfl, rfl, rfl⟩
  case round =>
    obtain ⟨k, hk, rfl, rfl, rfl⟩ := hrel
    have ht := HT.out k hk
    by_cases hlt : k < 2
    · obtain ⟨ak, nk, ck, Lk, hc, htk, _, _, hnk, _⟩ := HK.out k hlt
      have htk2 : (((tot n0 n1 (k + 1) : Nat)) : Int) = ((tot n0 n1 k : Nat) : Int) + (nk : Int) := by rw [htk]; omega
      have ck2 : (k : Int) < 2 := by omega
      have cn : ¬ ((tot n0 n1 k : Nat) : Int) + (nk : Int) < 0 := by omega
      have HT2 : Hid (_ = _) := htk2
      clear htk htk2
      go_wp2
      go_roundw
      case rel => exact ⟨k + 1, by omega, by go_num, by rw [HT2.out], by first | rfl | trivial⟩
      case measure => simp [intOf]; omega
    · have e : k = 2 := by omega
      have ck2 : ¬ (k : Int) < 2 := by omega
      clear e
      obtain ⟨N, hN⟩ : ∃ N, tot n0 n1 k = N := ⟨_, rfl⟩
      rw [hN] at ht ⊢
      clear hN
      go_wp2_with fail
      refine (c_growP N wr (by omega)).mono ?_
      rintro e w1 ⟨⟨ga, gc, rfl, o1⟩, hb⟩
      have O1 : Hid (w1.ownsRow wr.heap.size 57 1 (.slice ga 0 gc) 0 (([] : List Value))) := o1
      have B1 : Hid (Below wr.heap.size wr w1) := hb
      clear o1 hb
      go_wp2
      go_loopw [6, 27] (fun s i wq => ∃ (j : Nat) (av : Option Addr) (cv : Nat), j ≤ 2 ∧ i = .int .i64 (j : Int) ∧ s = .slice av (cat2 us vs j).length cv ∧ Hid (wq.ownsRow wr.heap.size 57 1 (.slice av (cat2 us vs j).length cv) (cat2 us vs j).length ((cat2 us vs j).map ptr)) ∧ Hid (Below wr.heap.size wr wq)) (fun _ i _ => 2 - (intOf i).toNat)
      case atStart => exact ⟨0, ga, gc, by omega, rfl, rfl, O1, B1⟩
      case round =>
        rename World => wq
        obtain ⟨j, av, cv, hj, rfl, rfl, HO, HB⟩ := hrel
        have hcl := HC.out j hj
        by_cases hjl : j < 2
        · obtain ⟨ak, nk, ck, Lk, hc, _, hcat, hrd, hnk, hno⟩ := HK.out j hjl
          have hc2 := far6 HB.out hc
          have R2 : Hid (RdV wq ak nk (Lk.map ptr)) := hrd.below HB.out
          have hlk : Lk.length = nk := by have := hrd.1; rwa [List.length_map] at this
          have HCAT : Hid (cat2 us vs (j + 1) = cat2 us vs j ++ Lk) := hcat
          have HNO : Hid (ak = none → nk = 0 ∧ ck = 0) := hno
          have cj2 : (j : Int) < 2 := by omega
          have rng := own_blk HO.out
          clear hc hcat hrd hno
          go_wp2_with (at_builtin; refine app_any _ rfl (.tmp 31) (.tmp 32) 84 rfl wr.heap.size 57 i0 (.pointer none) 1 8 Try.underlying84 hi hz0 hz1 hz2 rfl (by omega) (.slice av (cat2 us vs j).length cv) (cat2 us vs j).length ((cat2 us vs j).map ptr) rfl HO.out ak nk ck (Lk.map ptr) rfl HNO.out (by rw [List.length_map, hlk]; omega) (fun ad e => src1 (e ▸ R2.out)) (ptr_one Lk) (by unfold maxLen; omega) (by omega) HB.out.size ?_; intro a6 c6 w6 hown6 hgr6 hat6)
          rw [ob_slice] at hgr6
          have hown6' : w6.ownsRow wr.heap.size 57 1 (.slice a6 ((cat2 us vs j).length + nk) c6) ((cat2 us vs j).length + nk) ((cat2 us vs j ++ Lk).map ptr) := by rw [List.map_append]; exact hown6
          have H6 : Hid (w6.ownsRow wr.heap.size 57 1 (.slice a6 (cat2 us vs (j + 1)).length c6) (cat2 us vs (j + 1)).length ((cat2 us vs (j + 1)).map ptr)) := by unfold Hid; rw [HCAT.out, List.length_append, hlk]; exact hown6'
          have B6 : Hid (Below wr.heap.size wr w6) := HB.out.grown hgr6 HB.out.size (fun j hj => (rng j hj).1)
          clear hown6 hown6' hgr6 hat6 HO HB rng hc2
          go_wp2
          go_roundw
          case rel => exact ⟨j + 1, a6, c6, by omega, by go_num, by rw [HCAT.out, List.length_append, hlk], H6, B6⟩
          case measure => simp [intOf]; omega
        · have e : j = 2 := by omega
          have cj2 : ¬ (j : Int) < 2 := by omega
          have hcc : cat2 us vs j = us ++ vs := by rw [e]; rfl
          rw [hcc] at HO ⊢
          clear e hcc
          go_wp2
          go_ret
          exact ⟨⟨av, cv, by first | rfl | (rw [List.length_append]; rfl), by have := HO.out; first | exact this | simpa only [List.length_append, List.map_append] using this⟩, HB.out⟩

end Go.Proofs.Ythnggpjgajkaeaa
