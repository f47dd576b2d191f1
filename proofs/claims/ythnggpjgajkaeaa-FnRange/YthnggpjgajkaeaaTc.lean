/-
  NewTree, on both sides.
-/
import Derived.Test.YthnggpjgajkaeaaTb
import Derived.Deep.RegionWith
import Derived.Deep.AppendLies
import Derived.Deep.RegionLawGrows
namespace Go.Proofs.Ythnggpjgajkaeaa
open Go Go.RowKit
attribute [local go_sem ↓] Go.wp_at_zero Go.wp_at_succ

theorem step_app_any {P : Program} (w : World) {ops : Array Oper} {o : Oper} {a : Act} {K : Act → World → Prop} {Q : Exit → Act → World → Prop} {E : Prop} (hgd : o.guard = none) (s x : Operand) (t : TypeId)
    (ho : o.op = .call { callee := .builtin .append, args := #[s, x], argTypes := #[t, t] })
    (base : Nat) (e : TypeId) (i : TypeInfo) (z : Value) (size bytes : Nat) (ht : P.underlying t = some (.slice e)) (hi : P.info? e = some i) (hz : i.zero = some z)
    (hsize : i.size = size) (hby : i.bytes = bytes) (hzs : z.cells.size = size) (hsz : 0 < size)
    (v : Value) (n : Nat) (xs : List Value) (hs : a.eval s = v) (hown : w.ownsRow base e size v n xs)
    (ax : Option Addr) (m c : Nat) (news : List Value) (hx : a.eval x = .slice ax m c) (hnone : ax = none → m = 0 ∧ c = 0) (hl : news.length = m * size) (hnews : ∀ ad, ax = some ad → ∀ j u, news[j]? = some u → w.cell? (ad.add j) = some u) (h1 : ∀ u ∈ news, u.oneCell' = true)
    (h63 : n + m ≤ maxLen) (hbytes : (n + m) * bytes ≤ 140737488355328) (hbase : base ≤ w.heap.size)
    (h : ∀ a' c' w', w'.ownsRow base e size (.slice a' (n + m) c') (n + m) (xs ++ news) → w.grownBy w' v.ownBlock → (∀ g, ob a' = some g → v.ownBlock = some g ∨ g = w.heap.size) → K (a.put o.dst (.slice a' (n + m) c')) w') :
    if Region.wanted o (yielded ops a.tmps) = true then Oper.wp P o a w K Q else E := by
  have hw : Region.wanted o (yielded ops a.tmps) = true := by simp [Region.wanted, hgd]
  rw [if_pos hw]
  cases ax with
  | none =>
    obtain ⟨rfl, rfl⟩ := hnone rfl
    have hn : news = [] := List.eq_nil_of_length_eq_zero (by simpa using hl)
    subst hn
    obtain ⟨a', c', rfl, _⟩ := own_slc hown
    have hrun := run_append_owned_none (P := P) (w := w) base t o.type e i size ht hi _ n xs hown
    unfold Oper.wp execOp
    simp only [ho, resolve, invoke, builtin, Sem.run_bind, Sem.run_pure, Result.andThen_ok, List.map_toArray, List.map_cons, List.map_nil, hs, hx, hrun]
    exact h a' c' w (by simpa using hown) (World.grownBy.refl _ _) (fun g e => .inl (by rw [ob_slice]; exact e))
  | some ad =>
    obtain ⟨v', w', hr, hown', hgr, _, hblk⟩ := run_append_own_at (P := P) w base t o.type e i z size bytes ht hi hz hsize hby hzs hsz v n xs hown ad m c news hl (hnews ad rfl) h1 h63 hbytes hbase
    obtain ⟨a', c', rfl, _⟩ := own_slc hown'
    rw [ob_slice] at hblk
    unfold Oper.wp execOp
    simp only [ho, resolve, invoke, builtin, Sem.run_bind, Sem.run_pure, Result.andThen_ok, List.map_toArray, List.map_cons, List.map_nil, hs, hx, hr]
    exact h a' c' w' hown' hgr (fun g e => hblk.elim (fun k => .inl (k ▸ e)) (fun k => .inr (Option.some.inj (e.symm.trans k))))
theorem infoN : (Try.prog.info? 72).map (fun i => (i.zero, i.size, i.bytes)) = some (some (Value.agg #[.bool false, .slice none 0 0, .slice none 0 0]), 3, 56) := by kernel_rfl
theorem NB.box {w : World} {b : Nat} {x : Bool} (h : Box w b 72 #[.bool x, .slice none 0 0, .slice none 0 0]) : NB w b x := ⟨_, h, rfl, rfl, rfl⟩
theorem NB.of {w w' : World} {b : Nat} {x : Bool} (h : NB w b x) (e : w'.heap[b]? = w.heap[b]?) : NB w' b x := by obtain ⟨c, h, r⟩ := h; exact ⟨c, e.trans h, r⟩
theorem NB.own {w : World} {B c : Nat} {a : Option Addr} (h : w.ownsRow B 72 3 (.slice a 1 c) 1 [.bool true, .slice none 0 0, .slice none 0 0]) : ∃ b, a = some ⟨b, 0, none⟩ ∧ B ≤ b ∧ NB w b true := by
  rcases h.2 with ⟨hv, h0⟩ | ⟨g, cap', cur, hv, hb, hg, hnc, hcm, hcs, htake⟩
  · cases h0
  · simp only [Value.slice.injEq] at hv
    obtain ⟨rfl, _, rfl⟩ := hv
    have bx : Box w g 72 cur := hg
    refine ⟨g, rfl, hb, cur, bx, ?_, ?_, ?_⟩
    · rw [← bx.cell 0]; exact h.cellAt 0 (by omega)
    · rw [← bx.cell 1]; exact h.cellAt 1 (by omega)
    · rw [← bx.cell 2]; exact h.cellAt 2 (by omega)
theorem newsN {w : World} {g : Nat} (h : Box w g 72 #[.bool true, .slice none 0 0, .slice none 0 0]) : ∀ ad, some (⟨g, 0, none⟩ : Addr) = some ad → ∀ j u, ([.bool true, .slice none 0 0, .slice none 0 0] : List Value)[j]? = some u → w.cell? (ad.add j) = some u := by
  intro ad ea j u hj
  cases ea
  rw [addr_add, Nat.zero_add, h.cell j, ← hj]
  simp
theorem oneN : ∀ u ∈ ([.bool true, .slice none 0 0, .slice none 0 0] : List Value), u.oneCell' = true := by
  intro u hu
  simp at hu
  rcases hu with rfl | rfl <;> rfl
theorem below_of_grown {w w' : World} {B : Nat} (h : w.grownBy w' none) (hb : B ≤ w.heap.size) : Below B w w' := ⟨h.os, h.tape, h.output, h.size, fun k hk => h.block k (by omega) (fun e => by cases e)⟩
set_option maxRecDepth 100000 in
set_option maxHeartbeats 8000000 in
theorem c_specNT (w : World) : Calls Try.prog 23 #[] w fun e w' => (∃ b c : Nat, e = .returned (.agg #[.int .i64 0, .slice (some ⟨b, 0, none⟩) 1 c]) ∧ NB w' b true ∧ w.heap.size < b) ∧ Below w.heap.size w w' := by
  obtain ⟨V0, hV0⟩ : ∃ Q, w.alloc (.cells #[.int .i64 0, .slice none 0 0] 27) = Q := ⟨_, rfl⟩
  have bV0 : Below w.heap.size w V0 := by rw [← hV0]; exact (Below.refl _ _).alloc (Nat.le_refl _) _
  have XV0 : Hid (Box V0 w.heap.size 27 #[.int .i64 0, .slice none 0 0]) := by unfold Hid; rw [← hV0]; exact Box.new _ _ _
  obtain ⟨V, hV⟩ : ∃ Q, V0.alloc (.cells #[.bool true, .slice none 0 0, .slice none 0 0] 72) = Q := ⟨_, rfl⟩
  have bV : Below V0.heap.size V0 V := by rw [← hV]; exact (Below.refl _ _).alloc (Nat.le_refl _) _
  have XV : Hid (Box V V0.heap.size 72 #[.bool true, .slice none 0 0, .slice none 0 0]) := by unfold Hid; rw [← hV]; exact Box.new _ _ _
  have S0 : V0.heap.size = w.heap.size + 1 := by rw [← hV0]; simp
  rw [S0] at XV
  have BV : Hid (Below w.heap.size w V) := bV0.trans (bV.mono bV0.size)
  have Y0 : Hid (Box V w.heap.size 27 #[.int .i64 0, .slice none 0 0]) := XV0.out.belowS bV
  have y0 := Y0.out.cell 0
  have y1 := Y0.out.cell 1
  have z0 := Y0.out.thaw 0
  have z1 := Y0.out.thaw 1
  clear bV0 bV
  go_enter Try.func23, Try.ntmps23
  go_wp2
  refine retT Try.results23 rfl rfl (put2_box Y0.out _ _) ⟨⟨w.heap.size + 1, 1, rfl, ?_, by omega⟩, put2_below BV.out (Nat.le_refl _) _ _⟩
  exact (NB.box XV.out).of ((Below.heap_setCell _ _ _ _ (by show w.heap.size + 1 ≠ w.heap.size; omega)).trans (Below.heap_setCell _ _ _ _ (by show w.heap.size + 1 ≠ w.heap.size; omega)))
set_option maxRecDepth 100000 in
set_option maxHeartbeats 8000000 in
theorem c_treeOf0 (w : World) : Calls Try.prog 39 #[.slice none 0 0] w fun e w' => (∃ b c : Nat, e = .returned (.agg #[.int .i64 0, .slice (some ⟨b, 0, none⟩) 1 c]) ∧ NB w' b true ∧ w.heap.size < b) ∧ Below w.heap.size w w' := by
  obtain ⟨iN, hi, hz0, hz1, hz2⟩ := info_parts infoN
  have HI : Hid (Try.prog.info? 72 = some iN) := hi
  have HZ0 : Hid (iN.zero = some (Value.agg #[.bool false, .slice none 0 0, .slice none 0 0])) := hz0
  have HZ1 : Hid (iN.size = 3) := hz1
  have HZ2 : Hid (iN.bytes = 56) := hz2
  clear hi hz0 hz1 hz2
  obtain ⟨V0, hV0⟩ : ∃ Q, w.alloc (.cells #[.int .i64 0, .slice none 0 0] 27) = Q := ⟨_, rfl⟩
  have bV0 : Below w.heap.size w V0 := by rw [← hV0]; exact (Below.refl _ _).alloc (Nat.le_refl _) _
  have XV0 : Hid (Box V0 w.heap.size 27 #[.int .i64 0, .slice none 0 0]) := by unfold Hid; rw [← hV0]; exact Box.new _ _ _
  obtain ⟨V1, hV1⟩ : ∃ Q, V0.alloc (.cells #[.int .i64 0, .slice none 0 0] 27) = Q := ⟨_, rfl⟩
  have bV1 : Below V0.heap.size V0 V1 := by rw [← hV1]; exact (Below.refl _ _).alloc (Nat.le_refl _) _
  have XV1 : Hid (Box V1 V0.heap.size 27 #[.int .i64 0, .slice none 0 0]) := by unfold Hid; rw [← hV1]; exact Box.new _ _ _
  obtain ⟨V2, hV2⟩ : ∃ Q, V1.alloc (.cells #[.slice none 0 0, .slice none 0 0, .int .i64 0] 88) = Q := ⟨_, rfl⟩
  have bV2 : Below V1.heap.size V1 V2 := by rw [← hV2]; exact (Below.refl _ _).alloc (Nat.le_refl _) _
  have XV2 : Hid (Box V2 V1.heap.size 88 #[.slice none 0 0, .slice none 0 0, .int .i64 0]) := by unfold Hid; rw [← hV2]; exact Box.new _ _ _
  obtain ⟨V, hV⟩ : ∃ Q, V2.alloc (.cells #[.pointer (some ⟨w.heap.size + 2, 0, none⟩)] 57) = Q := ⟨_, rfl⟩
  have bV : Below V2.heap.size V2 V := by rw [← hV]; exact (Below.refl _ _).alloc (Nat.le_refl _) _
  have XV : Hid (Box V V2.heap.size 57 #[.pointer (some ⟨w.heap.size + 2, 0, none⟩)]) := by unfold Hid; rw [← hV]; exact Box.new _ _ _
  have S0 : V0.heap.size = w.heap.size + 1 := by rw [← hV0]; simp
  have S1 : V1.heap.size = w.heap.size + 2 := by rw [← hV1]; simp [S0]
  have S2 : V2.heap.size = w.heap.size + 3 := by rw [← hV2]; simp [S1]
  have S3 : V.heap.size = w.heap.size + 4 := by rw [← hV]; simp [S2]
  rw [S0] at XV1
  rw [S1] at XV2
  rw [S2] at XV
  have BV : Hid (Below w.heap.size w V) := bV0.trans ((bV1.trans ((bV2.trans (bV.mono bV2.size)).mono bV1.size)).mono bV0.size)
  have Y0 : Hid (Box V w.heap.size 27 #[.int .i64 0, .slice none 0 0]) := ((XV0.out.belowS bV1).belowS bV2).belowS bV
  have Y1 : Hid (Box V (w.heap.size + 1) 27 #[.int .i64 0, .slice none 0 0]) := (XV1.out.belowS bV2).belowS bV
  have Y2 : Hid (Box V (w.heap.size + 2) 88 #[.slice none 0 0, .slice none 0 0, .int .i64 0]) := XV2.out.belowS bV
  have CL : Hid (∀ W, Calls Try.prog 63 #[.slice none 0 0] W fun e w' => e = .returned (.slice (some ⟨W.heap.size + 1, 0, none⟩) 1 1) ∧ w' = (W.alloc (.cells #[.slice none 0 0, .slice none 0 0, .int .i64 0] 88)).alloc (.cells #[.pointer (some ⟨W.heap.size, 0, none⟩)] 57)) := fun W => c_leaves0 W
  clear bV0 bV1 bV2 bV XV0 XV1 XV2
  go_enter Try.func39, Try.ntmps39
  go_wp2_with fail
  refine (CL.out V1).mono ?_
  rintro e wl ⟨rfl, hl⟩
  rw [S1, hV2, hV] at hl
  subst hl
  go_wp2_with fail
  refine (c_grown1 _ _ _).mono ?_
  rintro e w' ⟨rfl, hq⟩; have hq' := hq.symm; subst hq'; clear hq
  clear CL hV hV0 hV1 hV2
  go_wp2_with fail
  go_loopw [10] (fun i wr => (i = .int .i64 0 ∧ wr = wl) ∨ (i = .int .i64 1 ∧ ∃ b c : Nat, Box wr (w.heap.size + 1) 27 #[.int .i64 0, .slice (some ⟨b, 0, none⟩) 1 c] ∧ Box wr w.heap.size 27 #[.int .i64 0, .slice none 0 0] ∧ NB wr b true ∧ w.heap.size < b ∧ Below w.heap.size w wr)) (fun i _ => 1 - (intOf i).toNat)
  case atStart => exact .inl ⟨rfl, rfl⟩
  case round =>
    rcases hrel with ⟨rfl, rfl⟩ | ⟨rfl, b, c, h1, h0, hn, hlt, hb⟩
    · have xl : wr.cell? ⟨w.heap.size + 3, 0, none⟩ = some (.pointer (some ⟨w.heap.size + 2, 0, none⟩)) := XV.out.cell 0
      obtain ⟨P, hP⟩ : ∃ P, (wr.setCell ⟨w.heap.size + 2, 2, none⟩ (.int .i64 0)).setCell ⟨w.heap.size + 1, 0, none⟩ (.int .i64 0) = P := ⟨_, rfl⟩
      have ne1 : w.heap.size + 2 ≠ w.heap.size + 1 := by omega
      have SP : P.heap.size = w.heap.size + 4 := by rw [← hP]; simp [S3]
      have P2 : Hid (Box P (w.heap.size + 2) 88 #[.slice none 0 0, .slice none 0 0, .int .i64 0]) := by unfold Hid; rw [← hP]; exact ((Y2.out.set 2 (.int .i64 0)).setOther _ _ ne1)
      have P1 : Hid (Box P (w.heap.size + 1) 27 #[.int .i64 0, .slice none 0 0]) := by unfold Hid; rw [← hP]; exact (Y1.out.setOther _ _ ne1.symm).set 0 (.int .i64 0)
      have P0 : Hid (Box P w.heap.size 27 #[.int .i64 0, .slice none 0 0]) := by unfold Hid; rw [← hP]; exact (Y0.out.setOther _ _ (by show w.heap.size ≠ w.heap.size + 2; omega)).setOther _ _ (by show w.heap.size ≠ w.heap.size + 1; omega)
      have BP : Hid (Below w.heap.size w P) := by unfold Hid; rw [← hP]; exact (BV.out.setCell (by show w.heap.size ≤ w.heap.size + 2; omega) _).setCell (by show w.heap.size ≤ w.heap.size + 1; omega) _
      have c22 : wr.cell? ⟨w.heap.size + 2, 2, none⟩ = some (.int .i64 0) := Y2.out.cell 2
      have t22 := Y2.out.thaw 2
      have c10 : wr.cell? ⟨w.heap.size + 1, 0, none⟩ = some (.int .i64 0) := Y1.out.cell 0
      have t10 := Y1.out.thaw 0
      have p11 : P.cell? ⟨w.heap.size + 1, 1, none⟩ = some (.slice none 0 0) := P1.out.cell 1
      have CN : Hid (∀ W, Box W (w.heap.size + 2) 88 #[.slice none 0 0, .slice none 0 0, .int .i64 0] → Calls Try.prog 64 #[.pointer (some ⟨w.heap.size + 2, 0, none⟩)] W fun e w' => e = .returned (.agg #[.bool true, .slice none 0 0, .slice none 0 0]) ∧ Below W.heap.size W w') := fun W hW => c_node _ 0 W hW
      clear XV Y0 Y1 Y2 BV
      go_wp2_with fail
      go_region_law (first
        | (rw [if_pos (by simp [Region.wanted])]
           go_simp
           go_at_call 64
           refine (CN.out _ (by first | exact P2.out | exact P2.out.drewN 1)).mono ?_
           rintro e w3 ⟨rfl, hb3⟩
           have HB3 : Hid (Below P.heap.size P w3) := by first | exact (Below.refl _ _).drew.trans hb3 | exact hb3
           have p3 : w3.cell? ⟨w.heap.size + 1, 1, none⟩ = some (.slice none 0 0) := far6 HB3.out p11
           obtain ⟨VA, hVA⟩ : ∃ VA, w3.alloc (.cells #[.bool true, .slice none 0 0, .slice none 0 0] 72) = VA := ⟨_, rfl⟩
           have pA : VA.cell? ⟨w.heap.size + 1, 1, none⟩ = some (.slice none 0 0) := by rw [← hVA]; exact far6 ((Below.refl _ _).alloc (Nat.le_refl _) _) p3
           have HA : Hid (Below P.heap.size P VA) := by unfold Hid; rw [← hVA]; exact HB3.out.alloc HB3.out.size _
           have XA : Hid (Box VA w3.heap.size 72 #[.bool true, .slice none 0 0, .slice none 0 0]) := by unfold Hid; rw [← hVA]; exact Box.new _ _ _
           clear hb3
           go_simp)
        | (refine step_app_any _ (by rfl) (.tmp 22) (.tmp 25) 25 (by rfl) P.heap.size 72 iN (.agg #[.bool false, .slice none 0 0, .slice none 0 0]) 3 56 Try.underlying25 HI.out HZ0.out HZ1.out HZ2.out rfl (by omega) (.slice none 0 0) 0 [] (by rfl) (World.ownsRow_nil _ _ _ _) (some ⟨w3.heap.size, 0, none⟩) 1 1 [.bool true, .slice none 0 0, .slice none 0 0] (by rfl) (fun ex => by cases ex) rfl (by exact newsN XA.out) oneN (by unfold maxLen; omega) (by omega) (by exact HA.out.size) ?_
           intro l2 lc2 w5 ho hgx hax
           have HO5 : Hid (w5.ownsRow P.heap.size 72 3 (.slice l2 1 lc2) 1 [.bool true, .slice none 0 0, .slice none 0 0]) := ho
           have HG5 : Hid (Below P.heap.size P w5) := HA.out.trans (below_of_grown hgx HA.out.size)
           have X5 : Box w5 (w.heap.size + 1) 27 #[.int .i64 0, .slice none 0 0] := P1.out.belowS HG5.out
           have c51 : w5.cell? ⟨w.heap.size + 1, 1, none⟩ = some (.slice none 0 0) := X5.cell 1
           have t51 := X5.thaw 1
           clear ho hgx hax X5))
      all_goals
        obtain ⟨b, rfl, hbb, hN⟩ := NB.own HO5.out
        have lt5 : w.heap.size + 3 < b := by omega
        have R1 : Hid (Box (w5.setCell ⟨w.heap.size + 1, 1, none⟩ (.slice (some ⟨b, 0, none⟩) 1 lc2)) (w.heap.size + 1) 27 #[.int .i64 0, .slice (some ⟨b, 0, none⟩) 1 lc2]) := (P1.out.belowS HG5.out).set 1 _
        have R0 : Hid (Box (w5.setCell ⟨w.heap.size + 1, 1, none⟩ (.slice (some ⟨b, 0, none⟩) 1 lc2)) w.heap.size 27 #[.int .i64 0, .slice none 0 0]) := (P0.out.belowS HG5.out).setOther _ _ (by show w.heap.size ≠ w.heap.size + 1; omega)
        have RN : Hid (NB (w5.setCell ⟨w.heap.size + 1, 1, none⟩ (.slice (some ⟨b, 0, none⟩) 1 lc2)) b true) := hN.of (Below.heap_setCell _ _ _ _ (by show b ≠ w.heap.size + 1; omega))
        have RB : Hid (Below w.heap.size w (w5.setCell ⟨w.heap.size + 1, 1, none⟩ (.slice (some ⟨b, 0, none⟩) 1 lc2))) := (BP.out.trans (HG5.out.mono (by omega))).setCell (by show w.heap.size ≤ w.heap.size + 1; omega) _
        clear hN HO5 HG5 HA XA HB3 p3 pA hVA CN P0 P1 P2 BP c22 t22 c10 t10 p11 c51 t51 xl hP HI HZ0 HZ1 HZ2
        go_wp2
        go_roundw
        case rel => exact .inr ⟨by go_num, b, lc2, R1.out, R0.out, RN.out, by omega, RB.out⟩
        case measure => simp [intOf]
    · have N : Hid (NB wr b true) := hn
      have H1 : Hid (Box wr (w.heap.size + 1) 27 #[.int .i64 0, .slice (some ⟨b, 0, none⟩) 1 c]) := h1
      have H0 : Hid (Box wr w.heap.size 27 #[.int .i64 0, .slice none 0 0]) := h0
      have B : Hid (Below w.heap.size w wr) := hb
      have a0 : wr.cell? ⟨w.heap.size + 1, 0, none⟩ = some (.int .i64 0) := h1.cell 0
      have a1 : wr.cell? ⟨w.heap.size + 1, 1, none⟩ = some (.slice (some ⟨b, 0, none⟩) 1 c) := h1.cell 1
      have y0 := h0.cell 0
      have y1 := h0.cell 1
      have z0 := h0.thaw 0
      have z1 := h0.thaw 1
      clear hn h1 h0 hb XV Y0 Y1 Y2 BV
      go_wp2
      refine retT Try.results39 rfl rfl (put2_box H0.out _ _) ⟨⟨b, c, rfl, ?_, hlt⟩, put2_below B.out (Nat.le_refl _) _ _⟩
      exact N.out.of ((Below.heap_setCell _ _ _ _ (by show b ≠ w.heap.size; omega)).trans (Below.heap_setCell _ _ _ _ (by show b ≠ w.heap.size; omega)))
set_option maxRecDepth 100000 in
set_option maxHeartbeats 8000000 in
theorem c_implNT (w : World) : Calls Try.prog 13 #[] w fun e w' => (∃ b c : Nat, e = .returned (.agg #[.int .i64 0, .slice (some ⟨b, 0, none⟩) 1 c]) ∧ NB w' b true ∧ w.heap.size < b) ∧ Below w.heap.size w w' := by
  obtain ⟨V, hV⟩ : ∃ Q, w.alloc (.cells #[.int .i64 0, .slice none 0 0] 27) = Q := ⟨_, rfl⟩
  have bV : Below w.heap.size w V := by rw [← hV]; exact (Below.refl _ _).alloc (Nat.le_refl _) _
  have XV : Hid (Box V w.heap.size 27 #[.int .i64 0, .slice none 0 0]) := by unfold Hid; rw [← hV]; exact Box.new _ _ _
  have SV : V.heap.size = w.heap.size + 1 := by rw [← hV]; simp
  have BV : Hid (Below w.heap.size w V) := bV
  clear bV
  go_enter Try.func13, Try.ntmps13
  go_wp2_with fail
  refine (c_treeOf0 V).mono ?_
  rintro e w1 ⟨⟨b, c, rfl, hn, hlt⟩, hb⟩
  have N1 : Hid (NB w1 b true) := hn
  have B1 : Hid (Below w.heap.size w w1) := BV.out.trans (hb.mono BV.out.size)
  have Y : Hid (Box w1 w.heap.size 27 #[.int .i64 0, .slice none 0 0]) := XV.out.belowS hb
  have y0 := Y.out.cell 0
  have y1 := Y.out.cell 1
  have z0 := Y.out.thaw 0
  have z1 := Y.out.thaw 1
  clear hn hb hV XV BV
  go_wp2
  refine retT Try.results13 rfl rfl (put2_box Y.out _ _) ⟨⟨b, c, rfl, ?_, by omega⟩, put2_below B1.out (Nat.le_refl _) _ _⟩
  exact N1.out.of ((Below.heap_setCell _ _ _ _ (by show b ≠ w.heap.size; omega)).trans (Below.heap_setCell _ _ _ _ (by show b ≠ w.heap.size; omega)))

end Go.Proofs.Ythnggpjgajkaeaa
