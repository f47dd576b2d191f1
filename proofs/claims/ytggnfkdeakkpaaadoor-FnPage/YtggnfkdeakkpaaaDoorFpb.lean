/-
  Pages that are drawn, and pages that are the same.
-/
import Derived.Test.YtggnfkdeakkpaaaDoorPn
import Derived.Test.YtggnfkdeakkpaaaDoorDn
import Derived.Test.YtggnfkdeakkpaaaDoorPx
import Derived.Test.YtggnfkdeakkpaaaDoorRs
import Derived.Deep.QuietTactic
import Derived.BigQuiet
import Derived.Deep.RegionHeld3
namespace Go.Proofs.YtggnfkdeakkpaaaDoor
open Go Go.RowKit
attribute [local go_sem ↓] Go.wp_at_zero Go.wp_at_succ

set_option maxRecDepth 100000 in
set_option maxHeartbeats 4000000 in
theorem c_same (a a' : Option Addr) (n cap n' cap' : Nat) (zs zs' : List (ByteArray)) (w : World) (hr : RdV w a n (zs.map Value.string)) (hr' : RdV w a' n' (zs'.map Value.string)) (hn : n ≤ 1048576) (hn' : n' ≤ 1048576) :
    Calls Tryd.prog 44 #[.slice a n cap, .slice a' n' cap'] w fun e w' => e = .returned (.bool (decide (zs = zs'))) ∧ ∃ q, w' = w.drewN q := by
  obtain ⟨hl, hcs⟩ := hr
  obtain ⟨hl', hcs'⟩ := hr'
  simp only [List.length_map] at hl hl'
  by_cases hnn : n = n'
  · subst hnn
    have hll : zs.length = zs'.length := by omega
    go_enter Tryd.func44, Tryd.ntmps44
    go_wp2
    go_loopw [5] (fun i wr => ∃ k : Nat, k ≤ n ∧ i = .int .i64 k ∧ Hid (sameToS zs zs' k) ∧ ∃ q, wr = w.drewN q) (fun i _ => n - (intOf i).toNat)
    case atStart => exact ⟨0, by omega, rfl, fun j h => absurd h (by omega), 0, rfl⟩
    case round =>
      obtain ⟨k, hk, rfl, HS, q, rfl⟩ := hrel
      by_cases hlt : k < n
      · obtain ⟨b, off, rfl, _, hc⟩ := hcs (by omega)
        obtain ⟨b', off', rfl, _, hc'⟩ := hcs' (by omega)
        obtain ⟨z, hz⟩ : ∃ z, z = zs.getD k (⟨#[]⟩) := ⟨_, rfl⟩
        obtain ⟨z', hz'⟩ : ∃ z, z = zs'.getD k (⟨#[]⟩) := ⟨_, rfl⟩
        have hck : w.cell? ⟨b, off + k, none⟩ = some (Value.string z) := by rw [hz, hc k hlt]; exact map_get _ _ _ _ (by omega)
        have hck' : w.cell? ⟨b', off' + k, none⟩ = some (Value.string z') := by rw [hz', hc' k hlt]; exact map_get _ _ _ _ (by omega)
        have g1 : (0 : Int) ≤ (k : Int) := by omega
        have g2 : (k : Int) < (n : Int) := by omega
        have HZ : Hid (z = zs.getD k (⟨#[]⟩)) := hz
        have HZ' : Hid (z' = zs'.getD k (⟨#[]⟩)) := hz'
        clear hc hc' hcs hcs' hz hz'
        by_cases he : z = z'
        · have HE : Hid (z = z') := he
          have he1 : (z.toList == z'.toList) = true := by simp [he]
          clear he
          go_wp2_with fail
          go_quiet (fail)
          go_wp2
          go_roundw
          case rel => exact ⟨k + 1, by omega, by go_num, fun j hj => if e : j = k then by rw [e, ← HZ.out, ← HZ'.out]; exact HE.out else HS.out j (by omega), _, rfl⟩
          case measure => simp [intOf]; omega
        · have HE : Hid (¬ z = z') := he
          have he1 : (z.toList == z'.toList) = false := by rw [beq_eq_false_iff_ne]; exact fun e => he (toList_inj e)
          clear he
          go_wp2_with fail
          go_quiet (fail)
          go_wp2
          go_ret
          exact ⟨ret_bool (decide_eq_false fun e => HE.out (by rw [HZ.out, HZ'.out, e])).symm, _, World.drewN_drewN _ _ _⟩
      · have e : k = n := by omega
        subst e
        go_wp2
        go_ret
        exact ⟨ret_bool (decide_eq_true (same_allS hll (by rw [hl]; exact HS.out))).symm, q, rfl⟩
  · have hne : ((n : Int) != (n' : Int)) = true := by simp; omega
    go_enter Tryd.func44, Tryd.ntmps44
    go_wp2
    go_ret
    exact ⟨ret_bool (decide_eq_false fun e => hnn (by rw [← hl, ← hl', e])).symm, 0, rfl⟩

set_option maxRecDepth 100000 in
set_option maxHeartbeats 4000000 in
theorem c_samePage (h h' : HG) (D : DG) (w : World) (r : RdG w h D) (r' : RdG w h' D) (hf : FitG D) :
    Calls Tryd.prog 15 #[.agg #[.int .i64 h.l, .slice h.a h.n h.c], .agg #[.int .i64 h'.l, .slice h'.a h'.n h'.c]] w fun e w' => e = .returned (.bool true) ∧ Below w.heap.size w w' := by
  have k1 := r.len
  have k2 := r'.len
  obtain ⟨V0, hV0⟩ : ∃ Q, w.alloc (.cells #[.int .i64 h.l, .slice h.a h.n h.c] 25) = Q := ⟨_, rfl⟩
  obtain ⟨V, hV⟩ : ∃ Q, V0.alloc (.cells #[.int .i64 h'.l, .slice h'.a h'.n h'.c] 25) = Q := ⟨_, rfl⟩
  have b0 : Below w.heap.size w V0 := by rw [← hV0]; exact (Below.refl _ _).alloc (Nat.le_refl _) _
  have b1 : Below V0.heap.size V0 V := by rw [← hV]; exact (Below.refl _ _).alloc (Nat.le_refl _) _
  have BV : Hid (Below w.heap.size w V) := b0.trans (b1.mono b0.size)
  have X : Box V w.heap.size 25 #[.int .i64 h.l, .slice h.a h.n h.c] := (show Box V0 w.heap.size 25 #[.int .i64 h.l, .slice h.a h.n h.c] by rw [← hV0]; exact Box.new _ _ _).belowS b1
  have Y : Box V V0.heap.size 25 #[.int .i64 h'.l, .slice h'.a h'.n h'.c] := by rw [← hV]; exact Box.new _ _ _
  obtain ⟨x0, x1⟩ := box2 X
  obtain ⟨y0, y1⟩ := box2 Y
  have el : (h.l == h'.l) = true := by rw [r.1, r'.1]; simp
  have CS : Hid (Calls Tryd.prog 44 #[.slice h.a h.n h.c, .slice h'.a h'.n h'.c] V fun e w' => e = .returned (.bool true) ∧ ∃ q, w' = V.drewN q) := by
    have := c_same h.a h'.a h.n h.c h'.n h'.c D.S D.S V (r.2.below BV.out) (r'.2.below BV.out) (by have := hf.1; omega) (by have := hf.1; omega)
    unfold Hid
    simpa using this
  clear r r' b0 b1 X Y k1 k2
  go_enter Tryd.func15, Tryd.ntmps15
  go_wp2_with fail
  refine CS.out.mono ?_
  rintro e w1 ⟨rfl, q, rfl⟩
  clear CS
  go_wp2
  go_ret
  exact ⟨rfl, below_drewN BV.out q⟩
def z30 : ByteArray := strOfNums (List.replicate 30 0)
def lst5 : List ByteArray := [⟨#[]⟩, ⟨#[]⟩, ⟨#[114, 101, 99]⟩, ⟨#[114, 101, 99, 111, 114, 100]⟩, z30]
theorem lst5_sz (s : ByteArray) (h : s ∈ lst5) : s.size ≤ 30 := by
  unfold lst5 at h
  simp only [List.mem_cons, List.not_mem_nil, or_false] at h
  rcases h with rfl | rfl | rfl | rfl | rfl
  · exact Nat.zero_le _
  · exact Nat.zero_le _
  · decide
  · decide
  · unfold z30; rw [strOfNums_size]; simp
theorem make30 (w : World) : (Instr.makeSlice 22 (.int .i64 30) (.int .i64 30)).run Tryd.prog w = .ok (.slice (some ⟨w.heap.size, 0, none⟩) 30 30) (w.alloc (.cells #[.int .u8 0, .int .u8 0, .int .u8 0, .int .u8 0, .int .u8 0, .int .u8 0, .int .u8 0, .int .u8 0, .int .u8 0, .int .u8 0, .int .u8 0, .int .u8 0, .int .u8 0, .int .u8 0, .int .u8 0, .int .u8 0, .int .u8 0, .int .u8 0, .int .u8 0, .int .u8 0, .int .u8 0, .int .u8 0, .int .u8 0, .int .u8 0, .int .u8 0, .int .u8 0, .int .u8 0, .int .u8 0, .int .u8 0, .int .u8 0] 5)) := by kernel_rfl
theorem inn_fresh {g E B F : Nat} {w w1 w2 : World} (h : Inn g E w w1) (i : Inn B F w1 w2) (hB : w.heap.size ≤ B) : Inn g E w w2 :=
  ⟨i.os.trans h.os, i.tape.trans h.tape, i.output.trans h.output, Nat.le_trans h.size i.size, fun k hk ho => (i.block k (Nat.lt_of_lt_of_le hk h.size) (.inl (by omega))).trans (h.block k hk ho)⟩
theorem lst5_rd (w : World) : RdV (w.alloc (.cells #[.string ⟨#[]⟩, .string ⟨#[]⟩, .string ⟨#[114, 101, 99]⟩, .string ⟨#[114, 101, 99, 111, 114, 100]⟩, .string z30] 9)) (some ⟨w.heap.size, 0, none⟩) 5 (lst5.map Value.string) :=
  RdV.own (World.ownsRow_lit (base := w.heap.size) (e := 9) (size := 1) w #[.string ⟨#[]⟩, .string ⟨#[]⟩, .string ⟨#[114, 101, 99]⟩, .string ⟨#[114, 101, 99, 111, 114, 100]⟩, .string z30] 5 (Nat.le_refl _) (by unfold maxLen; omega) rfl)
set_option maxRecDepth 100000 in
set_option maxHeartbeats 4000000 in
theorem c_page (w0 w : World) (g : Nat) (a : Option Addr) (n c T : Nat) (zs : List Int) (h : Drw w0 w g a n c T zs) (hT : T ≤ 900000) :
    Calls Tryd.prog 30 #[.pointer (some ⟨g, 0, none⟩)] w fun e w' => (∃ (h' : HG) (D : DG), e = .returned (.agg #[.int .i64 h'.l, .slice h'.a h'.n h'.c]) ∧ okG D = true ∧ OwnG w' w.heap.size w'.heap.size h' D) ∧ Inn g (g + 1) w w' := by
  have lg : g < w.heap.size := h.src.lt
  have lb : w0.heap.size ≤ g := h.behind
  obtain ⟨V0, hV0⟩ : ∃ Q, w.alloc (.cells #[.int .i64 0, .slice none 0 0] 25) = Q := ⟨_, rfl⟩
  have b0 : Below w.heap.size w V0 := by rw [← hV0]; exact (Below.refl _ _).alloc (Nat.le_refl _) _
  have R0 : Hid (Box V0 w.heap.size 25 #[.int .i64 0, .slice none 0 0]) := by unfold Hid; rw [← hV0]; exact Box.new _ _ _
  have l0 : w.heap.size < V0.heap.size := R0.out.lt
  have D0 : Hid (Drw w0 V0 g a n c T zs) := h.below b0
  have I0 : Hid (Inn g (g + 1) w V0) := Inn.of_below b0
  clear h b0
  go_enter Tryd.func30, Tryd.ntmps30
  go_wp2_with fail
  refine (c_specNew V0).mono ?_
  rintro e w1 ⟨⟨hp, rfl, op⟩, hb⟩
  obtain ⟨w2, hw2⟩ : ∃ Q, w1.alloc (.cells #[.int .i64 hp.l, .slice hp.a hp.n hp.c] 25) = Q := ⟨_, rfl⟩
  have b2 : Below w1.heap.size w1 w2 := by rw [← hw2]; exact (Below.refl _ _).alloc (Nat.le_refl _) _
  have b02 : Below V0.heap.size V0 w2 := hb.trans (b2.mono hb.size)
  have X2 : Hid (Box w2 w1.heap.size 25 #[.int .i64 hp.l, .slice hp.a hp.n hp.c]) := by unfold Hid; rw [← hw2]; exact Box.new _ _ _
  have R2 : Hid (Box w2 w.heap.size 25 #[.int .i64 0, .slice none 0 0]) := R0.out.belowS b02
  have D2 : Hid (Drw w0 w2 g a n c T zs) := D0.out.below b02
  have I2 : Hid (Inn g (g + 1) w w2) := I0.out.trans (Inn.of_below b02)
  have O2 : Hid (OwnG w2 V0.heap.size w1.heap.size hp newG) := op.below b2
  have l1 : V0.heap.size ≤ w1.heap.size := hb.size
  clear hb b2 b02 op R0 D0 I0 hV0
  obtain ⟨gp, cp, rfl, hg1, hg2⟩ := O2.out.some_of (by simp [newG])
  have en4 : newG.S.length = 4 := rfl
  have el0 : newG.L = 0 := rfl
  rw [en4, el0] at X2 O2 hw2 ⊢
  go_wp2
  go_loopw [4] (fun s wr => ∃ (k : Nat) (S : List ByteArray), k ≤ 4 ∧ s = .int .i64 (k : Int) ∧ Hid (S.length = 4 ∧ ∀ x ∈ S, x.size ≤ 30) ∧ Hid (OwnG wr V0.heap.size w1.heap.size ⟨0, some ⟨gp, 0, none⟩, 4, cp⟩ ⟨0, S⟩) ∧ Hid (Box wr w1.heap.size 25 #[.int .i64 0, .slice (some ⟨gp, 0, none⟩) 4 cp]) ∧ Hid (Box wr w.heap.size 25 #[.int .i64 0, .slice none 0 0]) ∧ Hid (Drw w0 wr g a n c (T + k) zs) ∧ Hid (Inn g (g + 1) w wr)) (fun s _ => 4 - (intOf s).toNat)
  case atStart => exact ⟨0, newG.S, by omega, rfl, ⟨rfl, fun x hx => by simp [newG] at hx; rw [hx]; exact Nat.zero_le _⟩, O2, X2, R2, D2, I2⟩
  case round =>
    clear O2 X2 R2 D2 I2 hw2
    obtain ⟨k, S, hk, rfl, HS, OW, XR, RR, DR, IR⟩ := hrel
    obtain ⟨x0, x1⟩ := box2 XR.out
    by_cases hlt : k < 4
    · have ck : (k : Int) < 4 := by omega
      go_wp2_with fail
      obtain ⟨q3, hq3⟩ : ∃ Q, wr.alloc (.cells #[.int .u8 0, .int .u8 0, .int .u8 0, .int .u8 0, .int .u8 0, .int .u8 0, .int .u8 0, .int .u8 0, .int .u8 0, .int .u8 0, .int .u8 0, .int .u8 0, .int .u8 0, .int .u8 0, .int .u8 0, .int .u8 0, .int .u8 0, .int .u8 0, .int .u8 0, .int .u8 0, .int .u8 0, .int .u8 0, .int .u8 0, .int .u8 0, .int .u8 0, .int .u8 0, .int .u8 0, .int .u8 0, .int .u8 0, .int .u8 0] 5) = Q := ⟨_, rfl⟩
      have b3 : Below wr.heap.size wr q3 := by rw [← hq3]; exact (Below.refl _ _).alloc (Nat.le_refl _) _
      have r3 : RdV q3 (some ⟨wr.heap.size, 0, none⟩) 30 ((List.replicate 30 (0 : Int)).map (Value.int .u8)) := by rw [← hq3]; exact RdV.own (World.ownsRow_lit (base := wr.heap.size) (e := 5) (size := 1) wr #[.int .u8 0, .int .u8 0, .int .u8 0, .int .u8 0, .int .u8 0, .int .u8 0, .int .u8 0, .int .u8 0, .int .u8 0, .int .u8 0, .int .u8 0, .int .u8 0, .int .u8 0, .int .u8 0, .int .u8 0, .int .u8 0, .int .u8 0, .int .u8 0, .int .u8 0, .int .u8 0, .int .u8 0, .int .u8 0, .int .u8 0, .int .u8 0, .int .u8 0, .int .u8 0, .int .u8 0, .int .u8 0, .int .u8 0, .int .u8 0] 30 (Nat.le_refl _) (by unfold maxLen; omega) rfl)
      have hmk : (Instr.makeSlice 22 (.int .i64 30) (.int .i64 30)).run Tryd.prog wr = .ok (.slice (some ⟨wr.heap.size, 0, none⟩) 30 30) q3 := by rw [← hq3]; exact make30 wr
      have hmkd : (Instr.makeSlice 22 (.int .i64 30) (.int .i64 30)).run Tryd.prog wr.drew = .ok (.slice (some ⟨wr.heap.size, 0, none⟩) 30 30) q3.drew := by rw [← hq3]; exact make30 wr.drew
      have hcv : (convert 22 9 (.slice (some ⟨wr.heap.size, 0, none⟩) 30 30)).run Tryd.prog q3 = .ok (.string z30) q3 := conv8 r3
      have hcvd : (convert 22 9 (.slice (some ⟨wr.heap.size, 0, none⟩) 30 30)).run Tryd.prog q3.drew = .ok (.string z30) q3.drew := conv8 (w := q3.drew) r3
      obtain ⟨q4, hq4⟩ : ∃ Q, q3.alloc (.cells #[.string ⟨#[]⟩, .string ⟨#[]⟩, .string ⟨#[114, 101, 99]⟩, .string ⟨#[114, 101, 99, 111, 114, 100]⟩, .string z30] 9) = Q := ⟨_, rfl⟩
      have b4 : Below q3.heap.size q3 q4 := by rw [← hq4]; exact (Below.refl _ _).alloc (Nat.le_refl _) _
      have b34 : Below wr.heap.size wr q4 := b3.trans (b4.mono b3.size)
      have l3 : q3.heap.size < q4.heap.size := by rw [← hq4]; simp
      have R4 : Hid (RdV q4 (some ⟨q3.heap.size, 0, none⟩) 5 (lst5.map Value.string)) := by unfold Hid; rw [← hq4]; exact lst5_rd q3
      have O4 : Hid (OwnG q4 V0.heap.size w1.heap.size ⟨0, some ⟨gp, 0, none⟩, 4, cp⟩ ⟨0, S⟩) := OW.out.below b34
      have X4 : Hid (Box q4 w1.heap.size 25 #[.int .i64 0, .slice (some ⟨gp, 0, none⟩) 4 cp]) := XR.out.belowS b34
      have RR4 : Hid (Box q4 w.heap.size 25 #[.int .i64 0, .slice none 0 0]) := RR.out.belowS b34
      have D4 : Hid (Drw w0 q4 g a n c (T + k) zs) := DR.out.below b34
      have I4 : Hid (Inn g (g + 1) w q4) := IR.out.trans (Inn.of_below b34)
      have lw : w.heap.size ≤ wr.heap.size := IR.out.size
      have lw3 : wr.heap.size ≤ q3.heap.size := b3.size
      have y0 := far6 b34 x0
      have y1 := far6 b34 x1
      have z0 := far6 b3 x0
      have z1 := far6 b3 x1
      have lx : w1.heap.size < wr.heap.size := XR.out.lt
      have PK : Hid (∀ W : World, Below q4.heap.size q4 W → Calls Tryd.prog 53 #[.pointer (some ⟨g, 0, none⟩), .slice (some ⟨q3.heap.size, 0, none⟩) 5 5] W fun e w' => ∃ s : ByteArray, e = .returned (.string s) ∧ s.size ≤ 30 ∧ Drw w0 w' g a n c (T + (k + 1)) zs ∧ OwnG w' V0.heap.size w1.heap.size ⟨0, some ⟨gp, 0, none⟩, 4, cp⟩ ⟨0, S⟩ ∧ Box w' w1.heap.size 25 #[.int .i64 0, .slice (some ⟨gp, 0, none⟩) 4 cp] ∧ Box w' w.heap.size 25 #[.int .i64 0, .slice none 0 0] ∧ Inn g (g + 1) w w') := fun W hW => by
        refine (c_pick w0 W g a n c (T + k) zs (some ⟨q3.heap.size, 0, none⟩) 5 5 lst5 (D4.out.below hW) (by omega) (by omega) (R4.out.below hW) (fun b e => by have e1 : q3.heap.size = b := Option.some.inj e; omega)).mono ?_
        rintro e w' ⟨⟨s, hs, he⟩, hd, hi⟩
        exact ⟨s, he, lst5_sz s hs, hd, (O4.out.below hW).inn hi (.inr (by omega)), (X4.out.belowS hW).innO hi (.inr (by omega)), (RR4.out.belowS hW).innO hi (.inr (by omega)), (I4.out.trans (Inn.of_below hW)).trans hi⟩
      clear b3 b4 b34 r3
      have hk0 : (0 : Int) ≤ (k : Int) := by omega
      go_region_with (go_at_call 53
                      refine (PK.out _ (by first | exact below_drewN (Below.refl _ _) _ | exact (Below.refl _ _).drew | exact Below.refl _ _)).mono ?_
                      rintro e w5 ⟨s, rfl, hs, hd, ho, hx, hr, hi⟩
                      obtain ⟨v0, v1⟩ := box2 hx
                      have vc := ho.2.1.cellAt k (by omega)
                      have vf := ho.2.1.frozenAt k
                      have vl : gp < w5.heap.size := (ho.2.1.lt gp rfl).2
                      obtain ⟨old, hold⟩ : ∃ old, (S.map Value.string)[k]? = some (Value.string old) := ⟨S.getD k ⟨#[]⟩, by have hl := HS.out.1; rw [List.getElem?_map, List.getD_eq_getElem?_getD, List.getElem?_eq_getElem (by omega)]; rfl⟩
                      rw [hold] at vc)
      all_goals
        have HS5 : Hid ((S.set k s).length = 4 ∧ ∀ x ∈ S.set k s, x.size ≤ 30) := ⟨by simpa using HS.out.1, fun x hx2 => by
          rcases List.mem_or_eq_of_mem_set hx2 with h5 | h5
          · exact HS.out.2 x h5
          · rw [h5]; exact hs⟩
        have i6 : Inn gp (gp + 1) w5 (w5.setCell ⟨gp, k, none⟩ (.string s)) := ⟨rfl, rfl, rfl, by simp, fun j _ ho2 => Below.heap_setCell w5 ⟨gp, k, none⟩ _ j (by show j ≠ gp; omega)⟩
        have O6 : Hid (OwnG (w5.setCell ⟨gp, k, none⟩ (.string s)) V0.heap.size w1.heap.size ⟨0, some ⟨gp, 0, none⟩, 4, cp⟩ ⟨0, S.set k s⟩) := ho.put k s
        have X6 : Hid (Box (w5.setCell ⟨gp, k, none⟩ (.string s)) w1.heap.size 25 #[.int .i64 0, .slice (some ⟨gp, 0, none⟩) 4 cp]) := hx.innO i6 (.inr (by omega))
        have R6 : Hid (Box (w5.setCell ⟨gp, k, none⟩ (.string s)) w.heap.size 25 #[.int .i64 0, .slice none 0 0]) := hr.innO i6 (.inl (by omega))
        have D6 : Hid (Drw w0 (w5.setCell ⟨gp, k, none⟩ (.string s)) g a n c (T + (k + 1)) zs) := hd.inn i6 (.inl (by omega)) (by omega)
        have I6 : Hid (Inn g (g + 1) w (w5.setCell ⟨gp, k, none⟩ (.string s))) := inn_fresh hi i6 (by omega)
        clear hd ho hx hr hi i6 vc vf vl
        go_wp2
        go_roundw
        case rel => first | exact ⟨k + 1, S.set k s, by omega, by go_num, HS5, O6, X6, R6, D6, I6⟩ | exact ⟨k + 1, S.set k s, by omega, by go_num, HS5, O6.out.below (Below.refl _ _).drew, X6, R6, D6.out.below (Below.refl _ _).drew, I6.out.trans (Inn.of_below (Below.refl _ _).drew)⟩
        case measure => simp [intOf]; omega
    · have cge : ¬ (k : Int) < 4 := by omega
      go_wp2_with fail
      have DR4 : Hid (Drw w0 wr g a n c (T + 4) zs) := DR.out.mono (by omega)
      refine (c_next w0 wr g a n c (T + 4) zs 50 DR4.out (by omega) (by omega)).mono ?_
      rintro e w3 ⟨⟨r, rfl, r0, r1⟩, _, hi⟩
      have X3 : Hid (Box w3 w1.heap.size 25 #[.int .i64 0, .slice (some ⟨gp, 0, none⟩) 4 cp]) := XR.out.innO hi (.inr (by omega))
      have R3 : Hid (Box w3 w.heap.size 25 #[.int .i64 0, .slice none 0 0]) := RR.out.innO hi (.inr (by omega))
      have O3 : Hid (OwnG w3 V0.heap.size w1.heap.size ⟨0, some ⟨gp, 0, none⟩, 4, cp⟩ ⟨0, S⟩) := OW.out.inn hi (.inr (by omega))
      have I3 : Hid (Inn g (g + 1) w w3) := IR.out.trans hi
      clear hi OW XR RR DR DR4 IR x0 x1
      obtain ⟨x0, x1⟩ := box2 X3.out
      have x2 := X3.out.thaw 0
      obtain ⟨w4, hw4⟩ : ∃ Q, w3.setCell ⟨w1.heap.size, 0, none⟩ (.int .i64 r) = Q := ⟨_, rfl⟩
      have X4 : Hid (Box w4 w1.heap.size 25 #[.int .i64 r, .slice (some ⟨gp, 0, none⟩) 4 cp]) := by unfold Hid; rw [← hw4]; exact X3.out.set 0 _
      have R4 : Hid (Box w4 w.heap.size 25 #[.int .i64 0, .slice none 0 0]) := by unfold Hid; rw [← hw4]; exact R3.out.setOther _ _ (by show w.heap.size ≠ w1.heap.size; omega)
      have O4 : Hid (OwnG w4 V0.heap.size w1.heap.size ⟨r, some ⟨gp, 0, none⟩, 4, cp⟩ ⟨r, S⟩) := by unfold Hid; rw [← hw4]; exact (O3.out.lsn r).setO (.inr (Nat.le_refl _)) _
      have i4 : Inn w1.heap.size (w1.heap.size + 1) w3 w4 := by rw [← hw4]; exact ⟨rfl, rfl, rfl, by simp, fun k _ ho => Below.heap_setCell w3 ⟨w1.heap.size, 0, none⟩ _ k (by show k ≠ w1.heap.size; omega)⟩
      have I4 : Hid (Inn g (g + 1) w w4) := inn_fresh I3.out i4 (by omega)
      obtain ⟨x3, x4⟩ := box2 X4.out
      obtain ⟨y0, y1⟩ := box2 R4.out
      have t0 := R4.out.thaw 0
      have t1 := R4.out.thaw 1
      have HOK : Hid (okG ⟨r, S⟩ = true) := by
        unfold Hid
        refine okG_yes (by unfold inB; exact decide_eq_true (by show 0 ≤ r ∧ r ≤ 1000; omega)) HS.out.1 ?_
        rw [List.any_eq_false]
        intro s hs
        have := HS.out.2 s hs
        unfold longB
        simp
        omega
      have ON := (O4.out.put2 (r := w.heap.size) (.inl l0) (.int .i64 r) (.slice (some ⟨gp, 0, none⟩) 4 cp)).wide (B' := w.heap.size) (by omega)
      have iN : Inn w.heap.size (w.heap.size + 1) w4 ((w4.setCell ⟨w.heap.size, 0, none⟩ (.int .i64 r)).setCell ⟨w.heap.size, 1, none⟩ (.slice (some ⟨gp, 0, none⟩) 4 cp)) := ⟨rfl, rfl, rfl, by simp, fun k _ ho => put2_same _ _ _ _ _ (by omega)⟩
      have HN : Hid (Inn g (g + 1) w ((w4.setCell ⟨w.heap.size, 0, none⟩ (.int .i64 r)).setCell ⟨w.heap.size, 1, none⟩ (.slice (some ⟨gp, 0, none⟩) 4 cp))) := inn_fresh I4.out iN (Nat.le_refl _)
      have HON : Hid (OwnG ((w4.setCell ⟨w.heap.size, 0, none⟩ (.int .i64 r)).setCell ⟨w.heap.size, 1, none⟩ (.slice (some ⟨gp, 0, none⟩) 4 cp)) w.heap.size _ ⟨r, some ⟨gp, 0, none⟩, 4, cp⟩ ⟨r, S⟩) := ON
      clear ON iN i4 I4
      go_wp2
      exact retG1 Tryd.results30 rfl rfl (put2_box R4.out _ _) ⟨⟨⟨r, some ⟨gp, 0, none⟩, 4, cp⟩, ⟨r, S⟩, rfl, HOK.out, HON.out⟩, HN.out⟩

end Go.Proofs.YtggnfkdeakkpaaaDoor
