/-
  DirtyPages: which pages are told.
-/
import Derived.Test.YtkpopingbbaomaaGreatDoorZzak
import Derived.Sort.LotA
import Derived.BigGuard
import Derived.BigCall
import Derived.Deep.Draws
import Derived.Deep.QuietTactic
import Derived.BigQuiet
import Derived.Test.YtkpopingbbaomaaGreatDoorYtdq
namespace Go.Proofs.YtkpopingbbaomaaGreatDoor
open Go Go.RowKit
attribute [local go_sem ↓] Go.wp_at_zero Go.wp_at_succ

theorem c_nan (x : Int) (w : World) : Calls Tryz.prog 294 #[.int .i64 x] w fun e w' => e = .returned (.bool false) ∧ w' = w := by
  have h : (x != x) = false := by simp
  go_enter Tryz.func294, Tryz.ntmps294
  go_wp2
  go_ret
  exact ⟨rfl, rfl⟩
theorem c_less (x y : Int) (w : World) : Calls Tryz.prog 257 #[.int .i64 x, .int .i64 y] w fun e w' => e = .returned (.bool (decide (x < y))) ∧ w' = w := by
  go_enter Tryz.func257, Tryz.ntmps257
  go_wp2_with fail
  refine (c_nan _ _).mono ?_
  rintro e w1 ⟨rfl, rfl⟩
  by_cases h : x < y
  · go_wp2
    go_ret
    exact ⟨ret_bool (by first | rfl | exact (decide_eq_true h).symm), rfl⟩
  · go_wp2
    go_ret
    exact ⟨ret_bool (by first | rfl | exact (decide_eq_false (by omega)).symm), rfl⟩
set_option maxRecDepth 100000 in
set_option maxHeartbeats 8000000 in
theorem c_blen (n : Nat) (hn : n ≤ 3) (w : World) : Calls Tryz.prog 197 #[.int .u64 (n : Int)] w fun e w' => (∃ k : Int, e = .returned (.int .i64 k)) ∧ w' = w := by
  have C : ∀ W, Calls Tryz.prog 261 #[.int .u64 (n : Int)] W fun e w' => (∃ k : Int, e = .returned (.int .i64 k)) ∧ w' = W := fun W => by
    obtain rfl | rfl | rfl | rfl : n = 0 ∨ n = 1 ∨ n = 2 ∨ n = 3 := by omega
    all_goals
      go_enter Tryz.func261, Tryz.ntmps261
      go_wp2
      go_ret
      exact ⟨⟨_, rfl⟩, rfl⟩
  go_enter Tryz.func197, Tryz.ntmps197
  go_wp2_with fail
  refine (C _).mono ?_
  rintro e w1 ⟨⟨k, rfl⟩, rfl⟩
  go_wp2
  go_ret
  exact ⟨⟨_, rfl⟩, rfl⟩
theorem grown_drewN (w : World) (q : Nat) (row : Option Nat) : w.grownBy (w.drewN q) row := ⟨rfl, rfl, rfl, Nat.le_refl _, fun _ _ _ => rfl⟩
theorem own_drewN {w : World} {base e size n : Nat} {v : Value} {xs : List Value} (h : w.ownsRow base e size v n xs) (q : Nat) : (w.drewN q).ownsRow base e size v n xs := h
theorem insIn_go (a j : Nat) (d : Array Int) (hj : a < j) (hl : Sort.ltInt d[j]! d[j - 1]! = true) : Sort.insInner Sort.ltInt a j d = Sort.insInner Sort.ltInt a (j - 1) (Sort.swp d j (j - 1)) := by
  cases j with
  | zero => omega
  | succ k =>
    rw [Nat.add_sub_cancel] at hl ⊢
    rw [Sort.insInner, hl, decide_eq_true hj]
    rfl
theorem insIn_stop (a j : Nat) (d : Array Int) (h : j ≤ a ∨ Sort.ltInt d[j]! d[j - 1]! = false) : Sort.insInner Sort.ltInt a j d = d := by
  cases j with
  | zero => rw [Sort.insInner]
  | succ k =>
    rw [Nat.add_sub_cancel] at h
    rw [Sort.insInner]
    rcases h with h | h
    · rw [decide_eq_false (show ¬ k + 1 > a by omega)]; rfl
    · rw [h, Bool.and_false]; rfl
theorem ints_swp (d : Array Int) (i j : Nat) : ((d.toList.map (Value.int .i64)).set i (.int .i64 d[j]!)).set j (.int .i64 d[i]!) = (Sort.swp d i j).toList.map (Value.int .i64) := by
  unfold Sort.swp
  rw [Array.toList_setIfInBounds, Array.toList_setIfInBounds, List.map_set, List.map_set]
set_option maxRecDepth 100000 in
set_option maxHeartbeats 8000000 in
theorem c_ins (base : Nat) (a : Option Addr) (cap : Nat) (d : Array Int) (w : World) (hown : w.ownsRow base 3 1 (.slice a d.size cap) d.size (d.toList.map (Value.int .i64))) (hn : d.size ≤ 3) :
    Calls Tryz.prog 251 #[.slice a d.size cap, .int .i64 0, .int .i64 (d.size : Int)] w fun e w' => e = .returned (.tuple #[]) ∧ w'.ownsRow base 3 1 (.slice a d.size cap) d.size ((Sort.insertionSort Sort.ltInt d 0 d.size).toList.map (Value.int .i64)) ∧ w.grownBy w' (ob a) := by
  obtain ⟨n, hd⟩ : ∃ n, d.size = n := ⟨_, rfl⟩
  have HD : Hid (d.size = n) := hd
  rw [hd] at hown hn ⊢
  clear hd
  go_enter Tryz.func251, Tryz.ntmps251
  go_wp2
  go_loopw [6] (fun vi wr => ∃ (i : Nat) (dk : Array Int), vi = .int .i64 i ∧ 1 ≤ i ∧ i ≤ n + 1 ∧ Hid (dk.size = n) ∧ Hid (wr.ownsRow base 3 1 (.slice a n cap) n (dk.toList.map (Value.int .i64))) ∧ Hid (w.grownBy wr (ob a)) ∧ Hid (Sort.insOuter Sort.ltInt 0 n i dk = Sort.insOuter Sort.ltInt 0 n 1 d)) (fun vi _ => n + 1 - (intOf vi).toNat)
  case atStart => exact ⟨1, d, rfl, by omega, by omega, HD, hown, World.grownBy.refl _ _, rfl⟩
  case round =>
    clear hown
    obtain ⟨i, dk, rfl, hi1, hi2, HK, HR, HG, HO⟩ := hrel
    by_cases hlt : i < n
    · have hltI : (i : Int) < (n : Int) := by omega
      go_wp2
      go_loopw [7] (fun vj wr => ∃ (j : Nat) (dj : Array Int), vj = .int .i64 j ∧ j ≤ i ∧ Hid (dj.size = n) ∧ Hid (wr.ownsRow base 3 1 (.slice a n cap) n (dj.toList.map (Value.int .i64))) ∧ Hid (w.grownBy wr (ob a)) ∧ Hid (Sort.insInner Sort.ltInt 0 j dj = Sort.insInner Sort.ltInt 0 i dk)) (fun vj _ => (intOf vj).toNat)
      case atStart => exact ⟨i, dk, rfl, Nat.le_refl _, HK, HR, HG, rfl⟩
      case round =>
        clear HR HG HK
        obtain ⟨j, dj, rfl, hji, HK, HR, HG, HI⟩ := hrel
        have OUT : Hid ((j ≤ 0 ∨ Sort.ltInt dj[j]! dj[j - 1]! = false) → Sort.insOuter Sort.ltInt 0 n (i + 1) dj = Sort.insOuter Sort.ltInt 0 n 1 d) := fun hs => by
          rw [← HO.out, Sort.insOuter.eq_def Sort.ltInt 0 n i dk, if_pos hlt, ← HI.out, insIn_stop _ _ _ hs]
        rcases own_form HR.out with ⟨hv, h0⟩ | ⟨g, cap', hv, hg1, hg2⟩
        · omega
        · simp only [Value.slice.injEq] at hv
          obtain ⟨rfl, _, rfl⟩ := hv
          cases j with
          | zero =>
            have c0 : decide ((0 : Int) < ((0 : Nat) : Int)) = false := by decide
            go_wp2_with fail
            go_quiet (first | (go_at_call 257; refine Calls.quiet_of_same (c_less _ _ _)))
            go_wp2
            go_roundw
            case rel => exact ⟨i + 1, dj, by go_num, by omega, by omega, HK, own_drewN HR.out _, HG.out.trans (grown_drewN _ _ _), OUT.out (.inl (Nat.le_refl _))⟩
            case measure => simp [intOf]; omega
          | succ j =>
            obtain ⟨x, hx⟩ : ∃ x, dj[j + 1]! = x := ⟨_, rfl⟩
            obtain ⟨y, hy⟩ : ∃ y, dj[j]! = y := ⟨_, rfl⟩
            have hown := HR.out
            have f1 := hown.cellAt (j + 1) (by omega)
            rw [List.getElem?_map, Array.getElem?_toList, Array.getElem?_eq_getElem (by have := HK.out; omega), Option.map_some, ← getElem!_pos dj (j + 1) (by have := HK.out; omega), hx] at f1
            have f0 := hown.cellAt j (by omega)
            rw [List.getElem?_map, Array.getElem?_toList, Array.getElem?_eq_getElem (by have := HK.out; omega), Option.map_some, ← getElem!_pos dj j (by have := HK.out; omega), hy] at f0
            have z1 := hown.frozenAt (j + 1)
            have z0 := hown.frozenAt j
            have g1 : (0 : Int) ≤ (j : Int) := by omega
            have g2 : (j : Int) < (n : Int) := by omega
            have g3 : (j : Int) + 1 < (n : Int) := by omega
            have hne : j + 1 ≠ j := by omega
            have HX : Hid (dj[j + 1]! = x) := hx
            have HY : Hid (dj[j]! = y) := hy
            clear hown hx hy
            have c0 : decide ((0 : Int) < (j : Int) + 1) = true := decide_eq_true (by omega)
            have c0' : decide (0 < j + 1) = true := decide_eq_true (by omega)
            go_wp2_with fail
            by_cases hl : x < y
            · have cl : decide (x < y) = true := decide_eq_true hl
              have HSW : Hid (Sort.insInner Sort.ltInt 0 j (Sort.swp dj (j + 1) j) = Sort.insInner Sort.ltInt 0 i dk) := by
                unfold Hid
                have := insIn_go 0 (j + 1) dj (by omega) (by rw [Nat.add_sub_cancel, HX.out, HY.out]; exact cl)
                rw [Nat.add_sub_cancel] at this
                rw [← this, HI.out]
              go_quiet (first | (go_at_call 257; refine Calls.quiet_of_same (c_less _ _ _)))
              go_wp2_with fail
              go_region
              all_goals go_wp2
              go_roundw
              case rel =>
                refine ⟨j, Sort.swp dj (j + 1) j, by go_num, by omega, by unfold Hid Sort.swp; simpa using HK.out, ?_, ?_, HSW⟩
                · unfold Hid
                  have s := fun q => (((own_drewN HR.out q).stored (j + 1) (.int .i64 y)).1.stored j (.int .i64 x)).1
                  have e := ints_swp dj (j + 1) j
                  rw [HX.out, HY.out] at e
                  rw [e] at s
                  exact s _
                · unfold Hid
                  have t1 := fun q => ((own_drewN HR.out q).stored (j + 1) (.int .i64 y))
                  have t2 := fun q => (t1 q).1.stored j (.int .i64 x)
                  exact ((HG.out.trans (grown_drewN _ _ _)).trans (t1 _).2).trans (t2 _).2
              case measure => first | (simp [intOf]; done) | (simp [intOf]; omega)
            · have cl : decide (x < y) = false := decide_eq_false hl
              go_quiet (first | (go_at_call 257; refine Calls.quiet_of_same (c_less _ _ _)))
              go_wp2
              go_roundw
              case rel => exact ⟨i + 1, dj, by go_num, by omega, by omega, HK, own_drewN HR.out _, HG.out.trans (grown_drewN _ _ _), OUT.out (.inr (by rw [Nat.add_sub_cancel, HX.out, HY.out]; exact cl))⟩
              case measure => simp [intOf]; omega
    · have hge : ¬ (i : Int) < (n : Int) := by omega
      have E : Hid (Sort.insertionSort Sort.ltInt d 0 n = dk) := by
        unfold Hid Sort.insertionSort
        rw [Nat.zero_add, ← HO.out, Sort.insOuter.eq_def, if_neg hlt]
      go_wp2
      go_end0
      exact ⟨rfl, by rw [E.out]; exact HR.out, HG.out⟩
set_option maxRecDepth 100000 in
set_option maxHeartbeats 8000000 in
theorem c_sort (base : Nat) (a : Option Addr) (cap : Nat) (d : Array Int) (w : World) (hown : w.ownsRow base 3 1 (.slice a d.size cap) d.size (d.toList.map (Value.int .i64))) (hn : d.size ≤ 3) :
    Calls Tryz.prog 111 #[.slice a d.size cap] w fun e w' => e = .returned (.tuple #[]) ∧ w'.ownsRow base 3 1 (.slice a d.size cap) d.size ((Sort.insertionSort Sort.ltInt d 0 d.size).toList.map (Value.int .i64)) ∧ w.grownBy w' (ob a) := by
  have CI := c_ins base a cap d w hown hn
  obtain ⟨n, hd⟩ : ∃ n, d.size = n := ⟨_, rfl⟩
  rw [hd] at CI hn ⊢
  clear hown hd
  have CP : Hid (∀ k : Int, Calls Tryz.prog 196 #[.slice a n cap, .int .i64 0, .int .i64 (n : Int), .int .i64 k] w fun e w' => e = .returned (.tuple #[]) ∧ w'.ownsRow base 3 1 (.slice a n cap) n ((Sort.insertionSort Sort.ltInt d 0 n).toList.map (Value.int .i64)) ∧ w.grownBy w' (ob a)) := fun k => by
    have h12 : (n : Int) ≤ 12 := by omega
    go_enter Tryz.func196, Tryz.ntmps196
    go_wp2
    refine wp_loop_rounds 1 ?_
    rw [rounds_succ]
    go_wp2_with fail
    refine CI.mono ?_
    rintro e w1 ⟨rfl, r1, r2⟩
    go_wp2
    (try simp only [Exit.inBlock, Exit.then])
    refine bodyPost_ret (results_none rfl _ _ _) rfl ?_
    exact ⟨rfl, r1, r2⟩
  clear CI
  go_enter Tryz.func111, Tryz.ntmps111
  go_wp2_with fail
  refine (c_blen n hn _).mono ?_
  rintro e w1 ⟨⟨k, rfl⟩, rfl⟩
  go_wp2_with fail
  refine (CP.out k).mono ?_
  rintro e w2 ⟨rfl, r1, r2⟩
  go_wp2
  go_end0
  exact ⟨rfl, r1, r2⟩

end Go.Proofs.YtkpopingbbaomaaGreatDoor
namespace Go.Proofs.YtkpopingbbaomaaGreatDoor
open Go Go.RowKit
attribute [local go_sem ↓] Go.wp_at_zero Go.wp_at_succ

/-- Is a page's first frame dirty? -/
def dtA (F : List FF) (no : Nat) : Bool := decide (0 ≤ ixF (no : Int) 0 F) && (F.getD (ixF (no : Int) 0 F).toNat zeroF).d
def dpS (F : List FF) (k : Nat) : List Int := ((List.range k).filter (dtA F)).map fun i : Nat => (i : Int)
def dpI (F : List FF) : List Int := (F.filter (·.d)).map (·.no)
def srtL (xs : List Int) : List Int := (Sort.insertionSort Sort.ltInt xs.toArray 0 xs.length).toList
def dpR (ok : Bool) (F : List FF) : List Int := if ok then dpS F 8 else []
def dpC (ok : Bool) : Int := if ok then 0 else 1
theorem dpS_yes {F : List FF} {k : Nat} (h : dtA F k = true) : dpS F (k + 1) = dpS F k ++ [(k : Int)] := by
  unfold dpS; rw [List.range_succ, List.filter_append]; simp [h]
theorem dpS_no {F : List FF} {k : Nat} (h : dtA F k = false) : dpS F (k + 1) = dpS F k := by
  unfold dpS; rw [List.range_succ, List.filter_append]; simp [h]
theorem dpS_len (F : List FF) (k : Nat) : (dpS F k).length ≤ k := by
  unfold dpS; rw [List.length_map]; exact Nat.le_trans (List.length_filter_le _ _) (by simp)
theorem dpI_take {F : List FF} {k : Nat} (h : k < F.length) : dpI (F.take (k + 1)) = dpI (F.take k) ++ (if (F.getD k zeroF).d then [(F.getD k zeroF).no] else []) := by
  unfold dpI
  rw [List.take_add_one, List.getElem?_eq_getElem h, List.getD_eq_getElem?_getD, List.getElem?_eq_getElem h, List.filter_append, List.map_append]
  cases hd : F[k].d <;> simp [hd]
theorem dpI_len (F : List FF) : (dpI F).length ≤ F.length := by
  unfold dpI; rw [List.length_map]; exact List.length_filter_le _ _
theorem ixF_bound (no : Int) : ∀ (fs : List FF) (i : Nat), ixF no i fs = -1 ∨ ((i : Int) ≤ ixF no i fs ∧ ixF no i fs < (i : Int) + fs.length)
  | [], _ => .inl rfl
  | f :: fs, i => by
    show (if f.no = no then (i : Int) else ixF no (i + 1) fs) = -1 ∨ _ ≤ (if f.no = no then (i : Int) else ixF no (i + 1) fs) ∧ (if f.no = no then (i : Int) else ixF no (i + 1) fs) < _
    by_cases h : f.no = no
    · rw [if_pos h, List.length_cons]; exact .inr ⟨Int.le_refl _, by omega⟩
    · rw [if_neg h, List.length_cons]
      rcases ixF_bound no fs (i + 1) with h1 | h1
      · exact .inl h1
      · exact .inr ⟨by omega, by omega⟩
/-- The first frame of a page. -/
def dtB (no : Int) : List FF → Bool
  | [] => false
  | f :: fs => if f.no = no then f.d else dtB no fs
theorem dtB_ix (no : Int) : ∀ (fs : List FF) (i : Nat) (A : List FF), A.length = i → (decide (0 ≤ ixF no i fs) && ((A ++ fs).getD (ixF no i fs).toNat zeroF).d) = dtB no fs
  | [], _, _, _ => rfl
  | f :: fs, i, A, h => by
    show (decide (0 ≤ (if f.no = no then (i : Int) else ixF no (i + 1) fs)) && ((A ++ f :: fs).getD (if f.no = no then (i : Int) else ixF no (i + 1) fs).toNat zeroF).d) = (if f.no = no then f.d else dtB no fs)
    by_cases e : f.no = no
    · rw [if_pos e, if_pos e, decide_eq_true (by omega), Bool.true_and, Int.toNat_natCast, List.getD_eq_getElem?_getD, List.getElem?_append_right (by omega), h]
      simp
    · rw [if_neg e, if_neg e]
      have ih := dtB_ix no fs (i + 1) (A ++ [f]) (by simp [h])
      rw [List.append_assoc] at ih
      exact ih
theorem dtA_eq (F : List FF) (no : Nat) : dtA F no = dtB (no : Int) F := dtB_ix (no : Int) F 0 [] rfl
theorem dtB_mem {no : Int} : ∀ {F : List FF}, F.Pairwise (fun f g => f.no ≠ g.no) → (dtB no F = true ↔ ∃ f ∈ F, f.no = no ∧ f.d = true)
  | [], _ => by simp [dtB]
  | f :: F, h => by
    rw [List.pairwise_cons] at h
    show (if f.no = no then f.d else dtB no F) = true ↔ _
    by_cases e : f.no = no
    · rw [if_pos e]
      constructor
      · intro hd; exact ⟨f, by simp, e, hd⟩
      · rintro ⟨g, hg, hn, hd⟩
        rcases List.mem_cons.1 hg with rfl | hg
        · exact hd
        · exact absurd (e.trans hn.symm) (h.1 g hg)
    · rw [if_neg e, dtB_mem h.2]
      constructor
      · rintro ⟨g, hg, q⟩; exact ⟨g, by simp [hg], q⟩
      · rintro ⟨g, hg, hn, hd⟩
        rcases List.mem_cons.1 hg with rfl | hg
        · exact absurd hn e
        · exact ⟨g, hg, hn, hd⟩
theorem arF_nos {last : Int} : ∀ {F : List FF} {tk : List Nat}, arF last tk F = true → (∀ f ∈ F, 0 ≤ f.no ∧ f.no ≤ 7 ∧ f.no.toNat ∉ tk) ∧ F.Pairwise (fun f g => f.no ≠ g.no)
  | [], _, _ => ⟨(fun f h => by cases h), .nil⟩
  | f :: F, tk, h => by
    have h' : (okFr f.no f.D f.d f.fi last && (!(tk.contains f.no.toNat) && arF last (f.no.toNat :: tk) F)) = true := h
    simp only [Bool.and_eq_true, Bool.not_eq_true'] at h'
    obtain ⟨h1, h2, h3⟩ := h'
    have ih := arF_nos h3
    have hf : 0 ≤ f.no ∧ f.no ≤ 7 := by
      by_cases hb : inB f.no 0 7 = true
      · exact of_decide_eq_true hb
      · rw [okFr_bad (.inl (by simpa using hb))] at h1; cases h1
    have hnt : f.no.toNat ∉ tk := by
      intro hm
      rw [List.contains_iff_mem.2 hm] at h2; cases h2
    refine ⟨fun g hg => ?_, List.pairwise_cons.2 ⟨fun g hg e => ?_, ih.2⟩⟩
    · rcases List.mem_cons.1 hg with rfl | hg
      · exact ⟨hf.1, hf.2, hnt⟩
      · have := ih.1 g hg
        exact ⟨this.1, this.2.1, fun hm => this.2.2 (List.mem_cons_of_mem _ hm)⟩
    · have := (ih.1 g hg).2.2
      rw [← e] at this
      exact this (by simp)
theorem sorted_eq : ∀ {l m : List Int}, l.Pairwise (· < ·) → m.Pairwise (· < ·) → (∀ x, x ∈ l ↔ x ∈ m) → l = m
  | [], [], _, _, _ => rfl
  | [], b :: m, _, _, h => by have := (h b).2 (by simp); cases this
  | a :: l, [], _, _, h => by have := (h a).1 (by simp); cases this
  | a :: l, b :: m, h1, h2, h => by
    rw [List.pairwise_cons] at h1 h2
    have e : a = b := by
      rcases List.mem_cons.1 ((h a).1 (by simp)) with q | q
      · exact q
      · rcases List.mem_cons.1 ((h b).2 (by simp)) with r | r
        · exact r.symm
        · have := h2.1 a q; have := h1.1 b r; omega
    subst e
    rw [sorted_eq h1.2 h2.2 fun x => ?_]
    constructor
    · intro hx
      rcases List.mem_cons.1 ((h x).1 (by simp [hx])) with q | q
      · have := h1.1 x hx; omega
      · exact q
    · intro hx
      rcases List.mem_cons.1 ((h x).2 (by simp [hx])) with q | q
      · have := h2.1 x hx; omega
      · exact q
theorem srtL_perm (xs : List Int) : (srtL xs).Perm xs ∧ (srtL xs).Pairwise (fun a b => ¬ b < a) := by
  have h := Sort.insertionSort_holds (lt := Sort.ltInt) Sort.swo_ltInt xs.toArray 0 xs.length (Nat.zero_le _) (by simp)
  obtain ⟨⟨hsz, _, hp⟩, hs⟩ := h
  have hsz' : (Sort.insertionSort Sort.ltInt xs.toArray 0 xs.length).size = xs.length := by simpa using hsz
  constructor
  · have e1 : ∀ (X : Array Int) (n : Nat), X.size = n → (X.extract 0 n).toList = X.toList := fun X n hX => by
      subst hX
      rw [Array.toList_extract]
      rw [List.extract_eq_take_drop, List.drop_zero, Nat.sub_zero, List.take_of_length_le (by simp)]
    rw [e1 _ _ hsz', e1 _ _ (by simp)] at hp
    simpa [srtL] using hp
  · rw [List.pairwise_iff_getElem]
    intro i j hi hj hij
    have hi' : i < (Sort.insertionSort Sort.ltInt xs.toArray 0 xs.length).size := by simpa [srtL] using hi
    have hj' : j < (Sort.insertionSort Sort.ltInt xs.toArray 0 xs.length).size := by simpa [srtL] using hj
    have := hs i j (Nat.zero_le _) hij (by omega)
    rw [getElem!_pos _ i hi', getElem!_pos _ j hj'] at this
    have := of_decide_eq_false this
    simpa [srtL] using this
theorem nodup_strict : ∀ {l : List Int}, l.Pairwise (fun a b => ¬ b < a) → l.Nodup → l.Pairwise (· < ·)
  | [], _, _ => .nil
  | a :: l, h, hn => by
    rw [List.pairwise_cons] at h
    rw [List.nodup_cons] at hn
    refine List.pairwise_cons.2 ⟨fun b hb => ?_, nodup_strict h.2 hn.2⟩
    have h1 := h.1 b hb
    have h2 : a ≠ b := fun e => hn.1 (by rw [e]; exact hb)
    omega
theorem dp_eq {last : Int} {F : List FF} (h : arF last [] F = true) : srtL (dpI F) = dpS F 8 := by
  obtain ⟨h1, h2⟩ := arF_nos h
  obtain ⟨p, s⟩ := srtL_perm (dpI F)
  have hnd : (dpI F).Nodup := by
    unfold dpI
    rw [List.Nodup, List.pairwise_map]
    exact (h2.filter _).imp fun q => q
  refine sorted_eq (nodup_strict s (p.nodup_iff.2 hnd)) ?_ fun x => ?_
  · unfold dpS
    rw [List.pairwise_map]
    exact ((List.pairwise_lt_range).filter _).imp fun q => by omega
  · rw [p.mem_iff]
    unfold dpI dpS
    rw [List.mem_map, List.mem_map]
    constructor
    · rintro ⟨f, hf, rfl⟩
      rw [List.mem_filter] at hf
      have := h1 f hf.1
      refine ⟨f.no.toNat, ?_, by omega⟩
      rw [List.mem_filter, List.mem_range, dtA_eq]
      refine ⟨by omega, (dtB_mem h2).2 ⟨f, hf.1, by omega, hf.2⟩⟩
    · rintro ⟨n, hn, rfl⟩
      rw [List.mem_filter, dtA_eq] at hn
      obtain ⟨f, hf, e, hd⟩ := (dtB_mem h2).1 hn.2
      exact ⟨f, List.mem_filter.2 ⟨hf, hd⟩, e⟩
theorem okST_arF {D : DD} {n0 : Nat} {ep : Int} {ln : Nat} {L : List DR} {su : Int} {fn : Nat} {F : List FF} {ha : Int} (h : okST D n0 ep ln L su fn F ha = true) : fn ≤ 3 ∧ arF (ln : Int) [] F = true := by
  unfold okST at h
  simp only [Bool.and_eq_true, decide_eq_true_eq] at h
  obtain ⟨p0, p1, p2, p3, p4, p5, p6, p7, p8, ⟨p9, p10⟩, p11, p12, p13⟩ := h
  exact ⟨p9, p10⟩

end Go.Proofs.YtkpopingbbaomaaGreatDoor
