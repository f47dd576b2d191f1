/-
  Records of the log: the walk of the specification's l04CheckOK.
-/
import Derived.Test.YtimdoaehlciecaaRt
import Derived.BigQuiet
namespace Go.Proofs.Ytimdoaehlciecaa
open Go Go.RowKit
attribute [local go_sem ↓] Go.wp_at_zero Go.wp_at_succ


def prevQ (ds : List (Int × Int)) (k : Nat) : Option Int := if k = 0 then none else some (ds.getD (k - 1) (0, 0)).1
theorem prevQ_succ {ds : List (Int × Int)} {k : Nat} (h : k < ds.length) : prevQ ds (k + 1) = some (ds[k]'h).1 := by
  unfold prevQ
  rw [if_neg (by omega), Nat.add_sub_cancel, List.getD_eq_getElem?_getD, List.getElem?_eq_getElem h]
  rfl
theorem rgS_step {ds : List (Int × Int)} {k : Nat} {lo hi l : Int} {q : Option Int} (h : k < ds.length) : rgS (ds.drop k) q lo hi l = (inB (ds[k]'h).1 lo hi && (inB (ds[k]'h).2 1 (l - 1) && ((match q with | none => true | some q => decide (q < (ds[k]'h).1)) && rgS (ds.drop (k + 1)) (some (ds[k]'h).1) lo hi l))) := by
  rw [List.drop_eq_getElem_cons h]
  rfl
theorem ckB_none {t : List Int} {l : Int} (h : rc2 t = none) : ckB t l = false := by unfold ckB; rw [h]
theorem ckB_some {t : List Int} {l : Int} {ps ts : List (Int × Int)} (h : rc2 t = some (ps, ts)) : ckB t l = (decide (ts.length ≤ 10) && (rgS ps none 0 7 l && rgS ts none 1 60 l)) := by unfold ckB; rw [h, rgS_none, rgS_none]
theorem own_get {w : World} {base g c : Nat} {ps : List (Int × Int)} (ho : w.ownsRow base 66 2 (.slice (some ⟨g, 0, none⟩) ps.length c) ps.length (cells2 ps)) {k : Nat} (hk : k < ps.length) : w.cell? ⟨g, k * 2, none⟩ = some (.int .i64 (ps[k]'hk).1) ∧ w.cell? ⟨g, k * 2 + 1, none⟩ = some (.int .i64 (ps[k]'hk).2) := by
  rw [ho.cellAt (k * 2) (by omega), ho.cellAt (k * 2 + 1) (by omega)]
  exact cells2_get ps k hk
/-- What the loops keep. -/
structure StK (w W : World) (l : Int) (l0 l1 : Value) (ps ts : List (Int × Int)) : Prop where
  below : Below w.heap.size w W
  cell : W.cell? ⟨w.heap.size, 1, none⟩ = some (.int .i64 l)
  own0 : W.ownsRow w.heap.size 66 2 l0 ps.length (cells2 ps)
  own1 : W.ownsRow w.heap.size 66 2 l1 ts.length (cells2 ts)
theorem StK.drew {w W : World} {l : Int} {l0 l1 : Value} {ps ts : List (Int × Int)} (h : StK w W l l0 l1 ps ts) (q : Nat) : StK w (W.drewN q) l l0 l1 ps ts := ⟨below_drewN h.below q, h.cell, h.own0, h.own1⟩
set_option maxRecDepth 100000 in
set_option maxHeartbeats 4000000 in
theorem c_ckS (e l t k p n g s : Int) (b a : ByteArray) (w : World) (hl : 1 ≤ l ∧ l ≤ 60) (has : a.size ≤ 1048576) :
    Calls Try.prog 34 #[.agg #[.int .i64 e, .int .i64 l, .int .i64 t, .int .i64 k, .int .i64 p, .int .i64 n, .int .i64 g, .int .i64 s, .string b, .string a]] w fun e' w' => e' = .returned (.bool (ckB (numsT a) l)) ∧ Below w.heap.size w w' := by
  obtain ⟨V, hV⟩ : ∃ V, w.alloc (.cells #[.int .i64 e, .int .i64 l, .int .i64 t, .int .i64 k, .int .i64 p, .int .i64 n, .int .i64 g, .int .i64 s, .string b, .string a] 43) = V := ⟨_, rfl⟩
  have HB : Hid (Below w.heap.size w V) := by unfold Hid; rw [← hV]; exact (Below.refl _ _).alloc (Nat.le_refl _) _
  have BX : Hid (Box V w.heap.size 43 #[.int .i64 e, .int .i64 l, .int .i64 t, .int .i64 k, .int .i64 p, .int .i64 n, .int .i64 g, .int .i64 s, .string b, .string a]) := by unfold Hid; rw [← hV]; exact Box.new _ _ _
  obtain ⟨v0, v1, v2, v3, v4, v5, v6, v7, v8, v9⟩ := box10 BX.out
  have CK : Hid (Calls Try.prog 38 #[.string a] V fun e w' => ∃ l0 l1 A0 A1 L, e = .returned (.tuple #[l0, l1, .bool (rc2 (numsT a)).isSome]) ∧ TwoL V w' L l0 l1 A0 A1 ∧ ∀ x, rc2 (numsT a) = some x → x = (A0, A1)) := by
    have := c_lrc (numsT a) V (nums_bytes a) (by rw [nums_len]; exact has)
    rwa [nums_get] at this
  go_enter Try.func34, Try.ntmps34
  go_wp2_with fail
  refine CK.out.mono ?_
  rintro e' w1 ⟨l0, l1, ps, ts, L, rfl, tw, hx⟩
  have hb : Below V.heap.size V w1 := tw.below
  have X1 := BX.out.belowS hb
  have ST : Hid (StK w w1 l l0 l1 ps ts) := ⟨HB.out.trans (hb.mono HB.out.size), X1.cell 1, tw.own0.down HB.out.size, tw.own1.down HB.out.size⟩
  have hw1 : IntKind.i64.wrap (l - 1) = l - 1 := by rw [IntKind.wrap_i64]; omega
  clear CK v0 v1 v2 v3 v4 v5 v6 v7 v8 v9 hV X1 BX HB hb tw
  obtain ⟨a0, d0, e0⟩ := own_slice' ST.out.own0
  obtain ⟨a1, d1, e1⟩ := own_slice' ST.out.own1
  subst e0 e1
  cases hr : rc2 (numsT a) with
  | none =>
    have E : Hid (ckB (numsT a) l = false) := ckB_none hr
    clear hr hx
    rw [Option.isSome_none]
    go_wp2
    go_ret
    exact ⟨ret_bool E.out.symm, ST.out.below⟩
  | some x =>
  obtain rfl := hx x hr
  have EQ : Hid (ckB (numsT a) l = (decide (ts.length ≤ 10) && (rgS ps none 0 7 l && rgS ts none 1 60 l))) := ckB_some hr
  rw [Option.isSome_some]
  clear hr hx
  by_cases h8 : 8 < ps.length
  · have E : Hid (ckB (numsT a) l = false) := by
      unfold Hid
      rw [EQ.out, rgS_none]
      cases h : rg ps 0 7 l
      · simp
      · have := rg_len ps 0 7 l h (by omega); omega
    go_wp2
    go_ret
    exact ⟨ret_bool E.out.symm, ST.out.below⟩
  by_cases h10 : 10 < ts.length
  · have E : Hid (ckB (numsT a) l = false) := by unfold Hid; rw [EQ.out, decide_eq_false (by omega)]; rfl
    go_wp2
    go_ret
    exact ⟨ret_bool E.out.symm, ST.out.below⟩
  have EK : Hid (ckB (numsT a) l = (rgS ps none 0 7 l && rgS ts none 1 60 l)) := by unfold Hid; rw [EQ.out, decide_eq_true (by omega)]; rfl
  clear EQ
  go_wp2
  go_loopw [6] (fun iv wr => ∃ k : Nat, k ≤ ps.length ∧ iv = .int .i64 k ∧ Hid (rgS ps none 0 7 l = rgS (ps.drop k) (prevQ ps k) 0 7 l) ∧ Hid (StK w wr l (.slice a0 ps.length d0) (.slice a1 ts.length d1) ps ts)) (fun iv _ => ps.length - (intOf iv).toNat)
  case atStart => exact ⟨0, Nat.zero_le _, rfl, rfl, ST⟩
  case round =>
    obtain ⟨k, hk, rfl, HR, ST⟩ := hrel
    by_cases hlt : k < ps.length
    · obtain ⟨g, ge⟩ : ∃ g, a0 = some ⟨g, 0, none⟩ := by
        rcases own_form ST.out.own0 with ⟨_, h⟩ | ⟨g, cap, hv, _⟩
        · omega
        · cases hv; exact ⟨g, rfl⟩
      subst ge
      have OG := ST.out.own0
      obtain ⟨c0, c1⟩ := own_get OG hlt
      have cl := ST.out.cell
      obtain ⟨xx, hx⟩ : ∃ x, x = (ps[k]'hlt).1 := ⟨_, rfl⟩
      obtain ⟨y, hy⟩ : ∃ y, y = (ps[k]'hlt).2 := ⟨_, rfl⟩
      rw [← hx] at c0
      rw [← hy] at c1
      cases b1 : inB xx 0 7
      · have E : Hid (ckB (numsT a) l = false) := by unfold Hid; rw [EK.out, HR.out, rgS_step hlt, ← hx, b1]; simp
        clear HR hx hy OG
        go_wp2_with fail
        go_big_quiet (first | (go_at_call 33; refine Calls.quiet_of_same (c_in _ _ _ _)))
        go_wp2
        go_ret
        exact ⟨ret_bool E.out.symm, (ST.out.drew _).below⟩
      cases b2 : inB y 1 (l - 1)
      · have E : Hid (ckB (numsT a) l = false) := by unfold Hid; rw [EK.out, HR.out, rgS_step hlt, ← hy, b2]; simp
        clear HR hx hy OG
        go_wp2_with fail
        go_big_quiet (first | (go_at_call 33; refine Calls.quiet_of_same (c_in _ _ _ _)))
        go_wp2
        go_ret
        exact ⟨ret_bool E.out.symm, (ST.out.drew _).below⟩
      by_cases k0 : k = 0
      · subst k0
        have HS : Hid (rgS ps none 0 7 l = rgS (ps.drop (0 + 1)) (prevQ ps (0 + 1)) 0 7 l) := by unfold Hid; rw [HR.out, rgS_step hlt, ← hx, ← hy, b1, b2, prevQ_succ hlt, ← hx]; simp [prevQ]
        clear HR hx hy OG
        go_wp2_with fail
        go_big_quiet (first | (go_at_call 33; refine Calls.quiet_of_same (c_in _ _ _ _)))
        go_wp2
        go_roundw
        case rel => exact ⟨0 + 1, by omega, by go_num, HS, ST.out.drew _⟩
        case measure => simp [intOf]; omega
      · obtain ⟨j, hj⟩ : ∃ j, k = j + 1 := ⟨k - 1, by omega⟩
        obtain ⟨z, hzz⟩ : ∃ z, z = (ps[j]'(by omega)).1 := ⟨_, rfl⟩
        have d0 := (own_get OG (k := j) (by omega)).1
        rw [← hzz] at d0
        have HQ : Hid (rgS (ps.drop k) (prevQ ps k) 0 7 l = (decide (z < xx) && rgS (ps.drop (k + 1)) (prevQ ps (k + 1)) 0 7 l)) := by
          unfold Hid
          rw [rgS_step hlt, ← hx, ← hy, b1, b2, prevQ_succ hlt, ← hx]
          subst hj
          rw [prevQ_succ (by omega), ← hzz]
          simp
        have hw : IntKind.i64.wrap ((k : Int) - 1) = (j : Int) := by rw [IntKind.wrap_i64]; omega
        have hk0 : decide ((0 : Int) < (k : Int)) = true := decide_eq_true (by omega)
        have hk1 : decide (0 < k) = true := decide_eq_true (by omega)
        have hjn : (j : Int) < (ps.length : Int) := by omega
        clear hx hy hzz hj OG
        by_cases b3 : xx ≤ z
        · have E : Hid (ckB (numsT a) l = false) := by unfold Hid; rw [EK.out, HR.out, HQ.out, decide_eq_false (by omega)]; simp
          clear HR HQ
          go_wp2_with fail
          go_big_quiet (first | (go_at_call 33; refine Calls.quiet_of_same (c_in _ _ _ _)))
          go_wp2
          go_ret
          exact ⟨ret_bool E.out.symm, (ST.out.drew _).below⟩
        · have HS : Hid (rgS ps none 0 7 l = rgS (ps.drop (k + 1)) (prevQ ps (k + 1)) 0 7 l) := by unfold Hid; rw [HR.out, HQ.out, decide_eq_true (by omega)]; simp
          clear HR HQ
          go_wp2_with fail
          go_big_quiet (first | (go_at_call 33; refine Calls.quiet_of_same (c_in _ _ _ _)))
          go_wp2
          go_roundw
          case rel => exact ⟨k + 1, by omega, by go_num, HS, ST.out.drew _⟩
          case measure => simp [intOf]; omega
    · have E0 : Hid (rgS ps none 0 7 l = true) := by unfold Hid; rw [HR.out, List.drop_of_length_le (by omega)]; rfl
      clear HR
      go_wp2
      go_loopw [7] (fun iv wr => ∃ k : Nat, k ≤ ts.length ∧ iv = .int .i64 k ∧ Hid (rgS ts none 1 60 l = rgS (ts.drop k) (prevQ ts k) 1 60 l) ∧ Hid (StK w wr l (.slice a0 ps.length d0) (.slice a1 ts.length d1) ps ts)) (fun iv _ => ts.length - (intOf iv).toNat)
      case atStart => exact ⟨0, Nat.zero_le _, rfl, rfl, ST⟩
      case round =>
        obtain ⟨k, hk, rfl, HR, ST⟩ := hrel
        by_cases hlt : k < ts.length
        · obtain ⟨g, ge⟩ : ∃ g, a1 = some ⟨g, 0, none⟩ := by
            rcases own_form ST.out.own1 with ⟨_, h⟩ | ⟨g, cap, hv, _⟩
            · omega
            · cases hv; exact ⟨g, rfl⟩
          subst ge
          have OG := ST.out.own1
          obtain ⟨c0, c1⟩ := own_get OG hlt
          have cl := ST.out.cell
          obtain ⟨xx, hx⟩ : ∃ x, x = (ts[k]'hlt).1 := ⟨_, rfl⟩
          obtain ⟨y, hy⟩ : ∃ y, y = (ts[k]'hlt).2 := ⟨_, rfl⟩
          rw [← hx] at c0
          rw [← hy] at c1
          cases b1 : inB xx 1 60
          · have E : Hid (ckB (numsT a) l = false) := by unfold Hid; rw [EK.out, E0.out, Bool.true_and, HR.out, rgS_step hlt, ← hx, b1]; simp
            clear HR hx hy OG
            go_wp2_with fail
            go_big_quiet (first | (go_at_call 33; refine Calls.quiet_of_same (c_in _ _ _ _)))
            go_wp2
            go_ret
            exact ⟨ret_bool E.out.symm, (ST.out.drew _).below⟩
          cases b2 : inB y 1 (l - 1)
          · have E : Hid (ckB (numsT a) l = false) := by unfold Hid; rw [EK.out, E0.out, Bool.true_and, HR.out, rgS_step hlt, ← hy, b2]; simp
            clear HR hx hy OG
            go_wp2_with fail
            go_big_quiet (first | (go_at_call 33; refine Calls.quiet_of_same (c_in _ _ _ _)))
            go_wp2
            go_ret
            exact ⟨ret_bool E.out.symm, (ST.out.drew _).below⟩
          by_cases k0 : k = 0
          · subst k0
            have HS : Hid (rgS ts none 1 60 l = rgS (ts.drop (0 + 1)) (prevQ ts (0 + 1)) 1 60 l) := by unfold Hid; rw [HR.out, rgS_step hlt, ← hx, ← hy, b1, b2, prevQ_succ hlt, ← hx]; simp [prevQ]
            clear HR hx hy OG
            go_wp2_with fail
            go_big_quiet (first | (go_at_call 33; refine Calls.quiet_of_same (c_in _ _ _ _)))
            go_wp2
            go_roundw
            case rel => exact ⟨0 + 1, by omega, by go_num, HS, ST.out.drew _⟩
            case measure => simp [intOf]; omega
          · obtain ⟨j, hj⟩ : ∃ j, k = j + 1 := ⟨k - 1, by omega⟩
            obtain ⟨z, hzz⟩ : ∃ z, z = (ts[j]'(by omega)).1 := ⟨_, rfl⟩
            have d0 := (own_get OG (k := j) (by omega)).1
            rw [← hzz] at d0
            have HQ : Hid (rgS (ts.drop k) (prevQ ts k) 1 60 l = (decide (z < xx) && rgS (ts.drop (k + 1)) (prevQ ts (k + 1)) 1 60 l)) := by
              unfold Hid
              rw [rgS_step hlt, ← hx, ← hy, b1, b2, prevQ_succ hlt, ← hx]
              subst hj
              rw [prevQ_succ (by omega), ← hzz]
              simp
            have hw : IntKind.i64.wrap ((k : Int) - 1) = (j : Int) := by rw [IntKind.wrap_i64]; omega
            have hk0 : decide ((0 : Int) < (k : Int)) = true := decide_eq_true (by omega)
            have hk1 : decide (0 < k) = true := decide_eq_true (by omega)
            have hjn : (j : Int) < (ts.length : Int) := by omega
            clear hx hy hzz hj OG
            by_cases b3 : xx ≤ z
            · have E : Hid (ckB (numsT a) l = false) := by unfold Hid; rw [EK.out, E0.out, Bool.true_and, HR.out, HQ.out, decide_eq_false (by omega)]; simp
              clear HR HQ
              go_wp2_with fail
              go_big_quiet (first | (go_at_call 33; refine Calls.quiet_of_same (c_in _ _ _ _)))
              go_wp2
              go_ret
              exact ⟨ret_bool E.out.symm, (ST.out.drew _).below⟩
            · have HS : Hid (rgS ts none 1 60 l = rgS (ts.drop (k + 1)) (prevQ ts (k + 1)) 1 60 l) := by unfold Hid; rw [HR.out, HQ.out, decide_eq_true (by omega)]; simp
              clear HR HQ
              go_wp2_with fail
              go_big_quiet (first | (go_at_call 33; refine Calls.quiet_of_same (c_in _ _ _ _)))
              go_wp2
              go_roundw
              case rel => exact ⟨k + 1, by omega, by go_num, HS, ST.out.drew _⟩
              case measure => simp [intOf]; omega
        · have E1 : Hid (rgS ts none 1 60 l = true) := by unfold Hid; rw [HR.out, List.drop_of_length_le (by omega)]; rfl
          clear HR
          go_wp2
          go_ret
          exact ⟨ret_bool (by rw [EK.out, E0.out, E1.out]; rfl), ST.out.below⟩

end Go.Proofs.Ytimdoaehlciecaa
