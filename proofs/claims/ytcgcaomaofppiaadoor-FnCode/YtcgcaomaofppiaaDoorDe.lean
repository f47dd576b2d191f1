/-
  The run of the program.
-/
import Derived.Test.YtcgcaomaofppiaaDoorDd
import Derived.Test.YtcgcaomaofppiaaDoorCi
import Derived.Deep.RegionHeld3
import Derived.Laws.EntriesVeiled
namespace Go.Proofs.YtcgcaomaofppiaaDoor
open Go Go.RowKit
attribute [local go_sem ↓] Go.wp_at_zero Go.wp_at_succ

set_option linter.unusedVariables false
set_option linter.unusedSimpArgs false
def nxt (w : World) (c : Nat) : Nat := (intOf ((w.cell? ⟨c, 8, none⟩).getD undef)).toNat
theorem CRun.nxt {w : World} {c B : Nat} {i : Int} {u v : VV} {S : List SV} {k : Nat} {a : Option Addr} {cap : Nat} (h : CRun w c B i u v S (k : Int) a cap) : nxt w c = k := by
  have : w.cell? ⟨c, 8, none⟩ = some (.int .i64 (k : Int)) := h.x.cell 8
  unfold Go.Proofs.YtcgcaomaofppiaaDoor.nxt
  rw [this]
  simp [intOf]
theorem CRun.next {w : World} {c B : Nat} {i : Int} {u v : VV} {S : List SV} {nx : Int} {a : Option Addr} {cap : Nat} (h : CRun w c B i u v S nx a cap) (hcB : c < B) (to : Int) : CRun (w.setCell ⟨c, 8, none⟩ (.int .i64 to)) c B i u v S to a cap := by
  refine ⟨box9_set8 h.x _, own_same h.r fun j e => Below.heap_setCell _ _ _ _ ?_⟩
  have := h.blk j (by rwa [ob_slice] at e)
  show j ≠ c
  omega
theorem just_vals {n k : Nat} {x : IN} (h : justB n k x = true) : (x.o = 1 ∨ x.o = 2 ∨ x.o = 3 ∨ x.o = 4 ∨ x.o = 5 ∨ x.o = 6) ∧ (x.o = 2 → inB x.p 0 2 = true) ∧ (x.o = 4 → inB x.p 6 13 = true) := by
  have ho := just_op h
  refine ⟨by omega, fun e => ?_, fun e => ?_⟩
  · unfold justB at h
    rw [if_neg (by omega), if_pos e] at h
    simp only [Bool.and_eq_true] at h
    exact h.2
  · unfold justB at h
    rw [if_neg (by omega), if_neg (by omega), if_neg (by omega), if_pos e] at h
    simp only [Bool.and_eq_true] at h
    exact h.2
set_option maxRecDepth 100000 in
set_option maxHeartbeats 40000000 in
theorem c_all (L : List IN) (la : Option Addr) (n lcap : Nat) (i : Int) (u v : VV) (c : Nat) (w : World) (hr : RdI w la n L) (hn : n ≤ 80) (ds : List Int) (hds : WFC n L ds) (h60 : ∀ k, ds.getD k 0 ≤ 60) (hi : inB i 0 1000 = true) (hu : okV u = true) (hv : okV v = true) (hx : Box w c 64 #[.int .i64 i, .int .i64 u.1, .int .i64 u.2.1, .string u.2.2, .int .i64 v.1, .int .i64 v.2.1, .string v.2.2, .slice none 0 0, .int .i64 0]) (hlc : ∀ b off, la = some ⟨b, off, none⟩ → b < c) :
    Calls Tryd.prog 28 #[.pointer (some ⟨c, 0, none⟩), .slice la n lcap] w fun e w' => e = .returned (.tuple #[.agg #[.int .i64 (ranC L n i u v).k, .int .i64 (ranC L n i u v).n, .string (ranC L n i u v).t], .int .i64 (ranC L n i u v).c]) ∧ Below c w w' := by
  obtain ⟨R, hR⟩ : ∃ R, ranC L n i u v = R := ⟨_, rfl⟩
  rw [hR]
  have HR : Hid (runR L n i u v (n + 1) [] 0 = R) := hR
  have HRD : Hid (RdI w la n L) := hr
  have HDS : Hid (WFC n L ds) := hds
  have H60 : Hid (∀ k, ds.getD k 0 ≤ 60) := h60
  have HI : Hid (inB i 0 1000 = true) := hi
  have HU : Hid (okV u = true) := hu
  have HVV : Hid (okV v = true) := hv
  have lc : c < w.heap.size := hx.lt
  obtain ⟨V, hV⟩ : ∃ V, (w.alloc (.cells #[.int .i64 0, .int .i64 0, .string ⟨#[]⟩] 29)).alloc (.cells #[.nilFunc, .func (Fn.func 49) #[.pointer (some ⟨c, 0, none⟩)] #[], .func (Fn.func 50) #[.pointer (some ⟨c, 0, none⟩)] #[], .func (Fn.func 51) #[.pointer (some ⟨c, 0, none⟩)] #[], .func (Fn.func 52) #[.pointer (some ⟨c, 0, none⟩)] #[], .func (Fn.func 53) #[.pointer (some ⟨c, 0, none⟩)] #[], .func (Fn.func 54) #[.pointer (some ⟨c, 0, none⟩)] #[]] 93) = V := ⟨_, rfl⟩
  have bV : Below w.heap.size w V := by rw [← hV]; exact ((Below.refl _ _).alloc (Nat.le_refl _) _).alloc (by simp) _
  have ZV : Hid (Box V w.heap.size 29 #[.int .i64 0, .int .i64 0, .string ⟨#[]⟩]) := by unfold Hid; rw [← hV]; exact (Box.new _ _ _).alloc _
  have DV : Hid (Box V (w.heap.size + 1) 93 #[.nilFunc, .func (Fn.func 49) #[.pointer (some ⟨c, 0, none⟩)] #[], .func (Fn.func 50) #[.pointer (some ⟨c, 0, none⟩)] #[], .func (Fn.func 51) #[.pointer (some ⟨c, 0, none⟩)] #[], .func (Fn.func 52) #[.pointer (some ⟨c, 0, none⟩)] #[], .func (Fn.func 53) #[.pointer (some ⟨c, 0, none⟩)] #[], .func (Fn.func 54) #[.pointer (some ⟨c, 0, none⟩)] #[]]) := by unfold Hid; rw [← hV]; exact Box.new2 _ _ _ _
  obtain ⟨B, hBe⟩ : ∃ B, V.heap.size = B := ⟨_, rfl⟩
  have hB2 : w.heap.size + 1 < B := by rw [← hBe]; exact DV.out.lt
  have hcB : c < B := by omega
  have RV : Hid (CRun V c B i u v [] ((0 : Nat) : Int) none 0) := ⟨hx.belowS bV, World.ownsRow_nil _ _ _ _⟩
  have BVw : Hid (Below w.heap.size w V) := bV
  have BV : Hid (Below c w V) := bV.mono (by omega)
  clear hr hds hi hu hv hx bV hR h60
  go_enter Tryd.func28, Tryd.ntmps28
  go_wp2_with fail
  try rw [hV]
  clear hV
  go_loopw [] (fun wr => ∃ (S : List SV) (k f : Nat) (a : Option Addr) (cap : Nat), Hid (CRun wr c B i u v S (k : Int) a cap) ∧ Hid (InR n ds S k) ∧ Hid (LowB c B V wr) ∧ n - k < f ∧ Hid (runR L n i u v f S k = R)) (fun wr => n - nxt wr c)
  case atStart => exact ⟨[], 0, n + 1, none, 0, RV, ⟨by omega, by rw [HDS.out.z]; rfl, fun _ h => by cases h⟩, LowB.of (Below.refl _ _) (by omega), by omega, HR⟩
  case round =>
    clear RV HR
    obtain ⟨S, k, f, a, cap, R0, IR, LW, hf, HE⟩ := hrel
    have kn := IR.out.kn
    have lBr : B ≤ wr.heap.size := by have := LW.out.size; omega
    by_cases hlt : k < n
    · obtain ⟨b, off, hab, hbl, hc⟩ := HRD.out.2 (by omega)
      subst hab
      have hbc := hlc b off rfl
      obtain ⟨⟨vo, vp, vk, vn, vt⟩, hv⟩ : ∃ x, x = L.getD k zeroI := ⟨_, rfl⟩
      obtain ⟨d0, d1, d2, d3, d4⟩ := RdI.at hc hlt hv
      dsimp only at d0 d1 d2 d3 d4
      have e0 : wr.cell? ⟨b, off + k * 5, none⟩ = some (.int .i64 vo) := LW.out.cell (far6 BVw.out d0) (by omega) (by omega)
      have e1 : wr.cell? ⟨b, off + k * 5 + 1, none⟩ = some (.int .i64 vp) := LW.out.cell (far6 BVw.out d1) (by omega) (by omega)
      have e2 : wr.cell? ⟨b, off + k * 5 + 2, none⟩ = some (.int .i64 vk) := LW.out.cell (far6 BVw.out d2) (by omega) (by omega)
      have e3 : wr.cell? ⟨b, off + k * 5 + 3, none⟩ = some (.int .i64 vn) := LW.out.cell (far6 BVw.out d3) (by omega) (by omega)
      have e4 : wr.cell? ⟨b, off + k * 5 + 4, none⟩ = some (.string vt) := LW.out.cell (far6 BVw.out d4) (by omega) (by omega)
      have HJ0 := HDS.out.j k hlt
      have TK0 := HDS.out.t k hlt
      obtain ⟨g0, hg0, HNX0⟩ := run_next hlt hf HE.out
      have HIN0 := in_step (i := i) (u := u) (v := v) HDS.out IR.out hlt HI.out HU.out HVV.out
      rw [← hv] at HJ0 TK0 HNX0 HIN0
      have JV0 := just_vals HJ0
      have HJ : Hid (justB n k ⟨vo, vp, vk, vn, vt⟩ = true) := HJ0
      have TK : Hid (tak vo ≤ ds.getD k 0) := TK0
      have HNX : Hid ((if (stR ⟨vo, vp, vk, vn, vt⟩ i u v S k).2.2 = 0 then runR L n i u v g0 (stR ⟨vo, vp, vk, vn, vt⟩ i u v S k).1 (stR ⟨vo, vp, vk, vn, vt⟩ i u v S k).2.1 else errE (stR ⟨vo, vp, vk, vn, vt⟩ i u v S k).2.2) = R) := HNX0
      have HIN : Hid (InR n ds (stR ⟨vo, vp, vk, vn, vt⟩ i u v S k).1 (stR ⟨vo, vp, vk, vn, vt⟩ i u v S k).2.1 ∧ k < (stR ⟨vo, vp, vk, vn, vt⟩ i u v S k).2.1) := HIN0
      have JV : Hid ((vo = 1 ∨ vo = 2 ∨ vo = 3 ∨ vo = 4 ∨ vo = 5 ∨ vo = 6) ∧ (vo = 2 → inB vp 0 2 = true) ∧ (vo = 4 → inB vp 6 13 = true)) := JV0
      have hfg : f = g0 + 1 := hg0
      have hs9 : S.length ≤ 1000 := by
        have q1 := IR.out.l
        have q2 := H60.out k
        omega
      have g1 : (0 : Int) ≤ (k : Int) := by omega
      have g2 : (k : Int) < (n : Int) := by omega
      obtain ⟨V1, hV1⟩ : ∃ W, wr.alloc (.cells #[.int .i64 vo, .int .i64 vp, .int .i64 vk, .int .i64 vn, .string vt] 59) = W := ⟨_, rfl⟩
      have bV : Below wr.heap.size wr V1 := by rw [← hV1]; exact (Below.refl _ _).alloc (Nat.le_refl _) _
      have AV : Box V1 wr.heap.size 59 #[.int .i64 vo, .int .i64 vp, .int .i64 vk, .int .i64 vn, .string vt] := by rw [← hV1]; exact Box.new _ _ _
      have R1 := R0.out.below bV
      have x8 : V1.cell? ⟨c, 8, none⟩ = some (.int .i64 (k : Int)) := R1.x.cell 8
      have w8 : wr.cell? ⟨c, 8, none⟩ = some (.int .i64 (k : Int)) := R0.out.x.cell 8
      have f8 := R1.x.thaw 8
      obtain ⟨W2, hW2⟩ : ∃ W, V1.setCell ⟨c, 8, none⟩ (.int .i64 ((k : Int) + 1)) = W := ⟨_, rfl⟩
      have R2 : Hid (CRun W2 c B i u v S ((k : Int) + 1) a cap) := by unfold Hid; rw [← hW2]; exact R1.next hcB _
      have L2 : Hid (LowB c B V W2) := by unfold Hid; rw [← hW2]; exact (LW.out.trans (LowB.of bV lBr)).set _ _ (.inl rfl)
      have A2 : Hid (Box W2 wr.heap.size 59 #[.int .i64 vo, .int .i64 vp, .int .i64 vk, .int .i64 vn, .string vt]) := by unfold Hid; rw [← hW2]; exact AV.setOther _ _ (by show wr.heap.size ≠ c; omega)
      have D2 : Hid (Box W2 (w.heap.size + 1) 93 #[.nilFunc, .func (Fn.func 49) #[.pointer (some ⟨c, 0, none⟩)] #[], .func (Fn.func 50) #[.pointer (some ⟨c, 0, none⟩)] #[], .func (Fn.func 51) #[.pointer (some ⟨c, 0, none⟩)] #[], .func (Fn.func 52) #[.pointer (some ⟨c, 0, none⟩)] #[], .func (Fn.func 53) #[.pointer (some ⟨c, 0, none⟩)] #[], .func (Fn.func 54) #[.pointer (some ⟨c, 0, none⟩)] #[]]) := L2.out.box DV.out (by omega) (by omega)
      have lB2 : B ≤ W2.heap.size := by have := L2.out.size; omega
      have HK : Hid (nxt wr c = k) := R0.out.nxt
      clear hc hv d0 d1 d2 d3 d4 HJ0 TK0 HNX0 HIN0 JV0 bV AV R1 hg0
      by_cases ho1 : vo = 1
      · subst ho1
        have tk : (0 : Int) ≤ (S.length : Int) := by have q1 := TK.out; have q2 := IR.out.l; rw [show tak (1 : Int) = 0 from rfl] at q1; omega
        have C := c_mpush c B i u v S ((k : Int) + 1) a cap W2.drew (R2.out.below (Below.refl _ _).drew) hcB (show B ≤ W2.drew.heap.size from lB2) (⟨1, vp, vk, vn, vt⟩ : IN) hs9
        dsimp only at C
        have f0 : W2.cell? ⟨w.heap.size + 1, 1, none⟩ = some (.func (Fn.func 49) #[.pointer (some ⟨c, 0, none⟩)] #[]) := D2.out.cell 1
        obtain ⟨y0, y1, y2, y3, y4⟩ := box5 A2.out
        clear hs9
        --@o1
        go_wp2_with fail
        go_region_with (go_at_call 49; refine C.mono ?_; rintro e w3 ⟨rfl, hc3, hl3⟩)
        all_goals
          have ES : stR (⟨1, vp, vk, vn, vt⟩ : IN) i u v S k = (S ++ [⟨vk, vn, vt⟩], k + 1, 0) := rfl
          obtain ⟨F, hF⟩ : ∃ F, F = stR (⟨1, vp, vk, vn, vt⟩ : IN) i u v S k := ⟨_, rfl⟩
          have HN := HNX.out
          have IN' := HIN.out
          have HF : Hid (F = (S ++ [⟨vk, vn, vt⟩], k + 1, 0)) := by unfold Hid; rw [hF, ES]
          have e1 : F.1 = S ++ [⟨vk, vn, vt⟩] := by rw [HF.out]
          have e2 : F.2.1 = k + 1 := by rw [HF.out]
          have e3 : F.2.2 = 0 := by rw [HF.out]
          rw [← hF] at HN IN'
          have L3 : Hid (LowB c B V w3) := (L2.out.trans (LowB.of ((Below.refl _ _).drew) lB2)).trans hl3
          have R3 : Hid (∃ a' cap', CRun w3 c B i u v F.1 (F.2.1 : Int) a' cap') := by rw [e1, e2]; exact hc3
          have IN3 : Hid (InR n ds F.1 F.2.1 ∧ k < F.2.1) := IN'
          obtain ⟨cd, hcd⟩ : ∃ x, F.2.2 = x := ⟨_, rfl⟩
          have HN3 : Hid ((if cd = 0 then runR L n i u v g0 F.1 F.2.1 else errE cd) = R) := by unfold Hid; rw [← hcd]; exact HN
          have hcd0 : cd = 0 := by rw [← hcd, e3]
          clear HF e1 e2 e3 hcd IN' HN hc3 hl3 ES hF C f0 y0 y1 y2 y3 y4 TK
          subst hcd0
          have hcd0 : (0 : Int) = 0 := rfl
          have HN4 : Hid (runR L n i u v g0 F.1 F.2.1 = R) := by unfold Hid; have := HN3.out; rw [if_pos hcd0] at this; exact this
          obtain ⟨a', cap', r3⟩ := R3.out
          have R4 : Hid (CRun w3 c B i u v F.1 (F.2.1 : Int) a' cap') := r3
          obtain ⟨S', hS'⟩ : ∃ x, F.1 = x := ⟨_, rfl⟩
          obtain ⟨k', hk'⟩ : ∃ x, F.2.1 = x := ⟨_, rfl⟩
          rw [hS', hk'] at R4 HN4 IN3
          have lt' := IN3.out.2
          have IN4 : Hid (InR n ds S' k') := IN3.out.1
          have kn' := IN4.out.kn
          have ME : Hid (nxt w3 c = k') := R4.out.nxt
          have MW : Hid (nxt wr c = k) := HK.out
          clear r3 hS' hk' R3 IN3 HN3 hcd0
          go_wp2
          exact ⟨⟨S', k', g0, a', cap', R4, IN4, L3, by omega, HN4⟩, by rw [ME.out, MW.out]; omega⟩
          --@@
      by_cases ho2 : vo = 2
      · subst ho2
        have tk : (0 : Int) ≤ (S.length : Int) := by have q1 := TK.out; have q2 := IR.out.l; rw [show tak (2 : Int) = 0 from rfl] at q1; omega
        have C := c_mcol c B i u v S ((k : Int) + 1) a cap W2.drew (R2.out.below (Below.refl _ _).drew) hcB (show B ≤ W2.drew.heap.size from lB2) (⟨2, vp, vk, vn, vt⟩ : IN) hs9 (JV.out.2.1 rfl)
        dsimp only at C
        have f0 : W2.cell? ⟨w.heap.size + 1, 2, none⟩ = some (.func (Fn.func 50) #[.pointer (some ⟨c, 0, none⟩)] #[]) := D2.out.cell 2
        obtain ⟨y0, y1, y2, y3, y4⟩ := box5 A2.out
        clear hs9
        --@o2
        go_wp2_with fail
        go_region_with (go_at_call 50; refine C.mono ?_; rintro e w3 ⟨rfl, hc3, hl3⟩)
        all_goals
          have ES : stR (⟨2, vp, vk, vn, vt⟩ : IN) i u v S k = (S ++ [evS (colE vp i u v)], k + 1, 0) := rfl
          obtain ⟨F, hF⟩ : ∃ F, F = stR (⟨2, vp, vk, vn, vt⟩ : IN) i u v S k := ⟨_, rfl⟩
          have HN := HNX.out
          have IN' := HIN.out
          have HF : Hid (F = (S ++ [evS (colE vp i u v)], k + 1, 0)) := by unfold Hid; rw [hF, ES]
          have e1 : F.1 = S ++ [evS (colE vp i u v)] := by rw [HF.out]
          have e2 : F.2.1 = k + 1 := by rw [HF.out]
          have e3 : F.2.2 = 0 := by rw [HF.out]
          rw [← hF] at HN IN'
          have L3 : Hid (LowB c B V w3) := (L2.out.trans (LowB.of ((Below.refl _ _).drew) lB2)).trans hl3
          have R3 : Hid (∃ a' cap', CRun w3 c B i u v F.1 (F.2.1 : Int) a' cap') := by rw [e1, e2]; exact hc3
          have IN3 : Hid (InR n ds F.1 F.2.1 ∧ k < F.2.1) := IN'
          obtain ⟨cd, hcd⟩ : ∃ x, F.2.2 = x := ⟨_, rfl⟩
          have HN3 : Hid ((if cd = 0 then runR L n i u v g0 F.1 F.2.1 else errE cd) = R) := by unfold Hid; rw [← hcd]; exact HN
          have hcd0 : cd = 0 := by rw [← hcd, e3]
          clear HF e1 e2 e3 hcd IN' HN hc3 hl3 ES hF C f0 y0 y1 y2 y3 y4 TK
          subst hcd0
          have hcd0 : (0 : Int) = 0 := rfl
          have HN4 : Hid (runR L n i u v g0 F.1 F.2.1 = R) := by unfold Hid; have := HN3.out; rw [if_pos hcd0] at this; exact this
          obtain ⟨a', cap', r3⟩ := R3.out
          have R4 : Hid (CRun w3 c B i u v F.1 (F.2.1 : Int) a' cap') := r3
          obtain ⟨S', hS'⟩ : ∃ x, F.1 = x := ⟨_, rfl⟩
          obtain ⟨k', hk'⟩ : ∃ x, F.2.1 = x := ⟨_, rfl⟩
          rw [hS', hk'] at R4 HN4 IN3
          have lt' := IN3.out.2
          have IN4 : Hid (InR n ds S' k') := IN3.out.1
          have kn' := IN4.out.kn
          have ME : Hid (nxt w3 c = k') := R4.out.nxt
          have MW : Hid (nxt wr c = k) := HK.out
          clear r3 hS' hk' R3 IN3 HN3 hcd0
          go_wp2
          exact ⟨⟨S', k', g0, a', cap', R4, IN4, L3, by omega, HN4⟩, by rw [ME.out, MW.out]; omega⟩
          --@@
      by_cases ho3 : vo = 3
      · subst ho3
        have tk : (1 : Int) ≤ (S.length : Int) := by have q1 := TK.out; have q2 := IR.out.l; rw [show tak (3 : Int) = 1 from rfl] at q1; omega
        have C := c_muna c B i u v S ((k : Int) + 1) a cap W2.drew (R2.out.below (Below.refl _ _).drew) hcB (show B ≤ W2.drew.heap.size from lB2) (⟨3, vp, vk, vn, vt⟩ : IN) hs9 (by omega) (IR.out.o _ (last_mem (by omega)))
        dsimp only at C
        have f0 : W2.cell? ⟨w.heap.size + 1, 3, none⟩ = some (.func (Fn.func 51) #[.pointer (some ⟨c, 0, none⟩)] #[]) := D2.out.cell 3
        obtain ⟨y0, y1, y2, y3, y4⟩ := box5 A2.out
        clear hs9
        --@o3
        go_wp2_with fail
        go_region_with (go_at_call 51; refine C.mono ?_; rintro e w3 ⟨rfl, hc3, hl3⟩)
        all_goals
          have ES : stR (⟨3, vp, vk, vn, vt⟩ : IN) i u v S k = (S.dropLast ++ [evS (unaE vp (lastS S).k (lastS S).n)], k + 1, (unaE vp (lastS S).k (lastS S).n).c) := rfl
          obtain ⟨F, hF⟩ : ∃ F, F = stR (⟨3, vp, vk, vn, vt⟩ : IN) i u v S k := ⟨_, rfl⟩
          have HN := HNX.out
          have IN' := HIN.out
          have HF : Hid (F = (S.dropLast ++ [evS (unaE vp (lastS S).k (lastS S).n)], k + 1, (unaE vp (lastS S).k (lastS S).n).c)) := by unfold Hid; rw [hF, ES]
          have e1 : F.1 = S.dropLast ++ [evS (unaE vp (lastS S).k (lastS S).n)] := by rw [HF.out]
          have e2 : F.2.1 = k + 1 := by rw [HF.out]
          have e3 : F.2.2 = (unaE vp (lastS S).k (lastS S).n).c := by rw [HF.out]
          rw [← hF] at HN IN'
          have L3 : Hid (LowB c B V w3) := (L2.out.trans (LowB.of ((Below.refl _ _).drew) lB2)).trans hl3
          have R3 : Hid (∃ a' cap', CRun w3 c B i u v F.1 (F.2.1 : Int) a' cap') := by rw [e1, e2]; exact hc3
          have IN3 : Hid (InR n ds F.1 F.2.1 ∧ k < F.2.1) := IN'
          obtain ⟨cd, hcd⟩ : ∃ x, F.2.2 = x := ⟨_, rfl⟩
          have HN3 : Hid ((if cd = 0 then runR L n i u v g0 F.1 F.2.1 else errE cd) = R) := by unfold Hid; rw [← hcd]; exact HN
          rw [show (unaE vp (lastS S).k (lastS S).n).c = cd by rw [← hcd, e3]]
          clear HF e1 e2 e3 hcd IN' HN hc3 hl3 ES hF C f0 y0 y1 y2 y3 y4 TK
          by_cases hcd0 : cd = 0
          · have hnz : (cd != 0) = false := by simp [hcd0]
            have HCD : Hid (cd = 0) := hcd0
            clear hcd0
            have HN4 : Hid (runR L n i u v g0 F.1 F.2.1 = R) := by unfold Hid; have := HN3.out; rw [if_pos HCD.out] at this; exact this
            obtain ⟨a', cap', r3⟩ := R3.out
            have R4 : Hid (CRun w3 c B i u v F.1 (F.2.1 : Int) a' cap') := r3
            obtain ⟨S', hS'⟩ : ∃ x, F.1 = x := ⟨_, rfl⟩
            obtain ⟨k', hk'⟩ : ∃ x, F.2.1 = x := ⟨_, rfl⟩
            rw [hS', hk'] at R4 HN4 IN3
            have lt' := IN3.out.2
            have IN4 : Hid (InR n ds S' k') := IN3.out.1
            have kn' := IN4.out.kn
            have ME : Hid (nxt w3 c = k') := R4.out.nxt
            have MW : Hid (nxt wr c = k) := HK.out
            clear r3 hS' hk' R3 IN3 HN3
            go_wp2
            exact ⟨⟨S', k', g0, a', cap', R4, IN4, L3, by omega, HN4⟩, by rw [ME.out, MW.out]; omega⟩
          · have hnz : (cd != 0) = true := by simp [hcd0]
            have HE0 : Hid (R = errE cd) := by unfold Hid; have := HN3.out; rw [if_neg hcd0] at this; exact this.symm
            have Z3 : Box w3 w.heap.size 29 #[.int .i64 0, .int .i64 0, .string ⟨#[]⟩] := L3.out.box ZV.out (by omega) (by omega)
            obtain ⟨z0, z1, z2⟩ := box3 Z3
            have t0 := Z3.thaw 0
            have t1 := Z3.thaw 1
            have t2 := Z3.thaw 2
            have HZ : Hid (Box w3 w.heap.size 29 #[.int .i64 0, .int .i64 0, .string ⟨#[]⟩]) := Z3
            clear hcd0 Z3 HN3 R3 IN3
            go_wp2
            refine ret32 Tryd.results28 rfl rfl rfl (put3_box HZ.out _ _ _) ⟨by rw [HE0.out]; rfl, ?_⟩
            exact put3_below (BV.out.trans (L3.out.below (by omega) (by omega))) (by omega) _ _ _
          --@@
      by_cases ho4 : vo = 4
      · subst ho4
        have tk : (2 : Int) ≤ (S.length : Int) := by have q1 := TK.out; have q2 := IR.out.l; rw [show tak (4 : Int) = 2 from rfl] at q1; omega
        have C := c_mbin c B i u v S ((k : Int) + 1) a cap W2.drew (R2.out.below (Below.refl _ _).drew) hcB (show B ≤ W2.drew.heap.size from lB2) (⟨4, vp, vk, vn, vt⟩ : IN) hs9 (by omega) (IR.out.o _ (last_mem (by omega))) (IR.out.o _ (mem_drop (last_mem (by simp; omega)))) (JV.out.2.2 rfl)
        dsimp only at C
        have f0 : W2.cell? ⟨w.heap.size + 1, 4, none⟩ = some (.func (Fn.func 52) #[.pointer (some ⟨c, 0, none⟩)] #[]) := D2.out.cell 4
        obtain ⟨y0, y1, y2, y3, y4⟩ := box5 A2.out
        clear hs9
        --@o4
        go_wp2_with fail
        go_region_with (go_at_call 52; refine C.mono ?_; rintro e w3 ⟨rfl, hc3, hl3⟩)
        all_goals
          have ES : stR (⟨4, vp, vk, vn, vt⟩ : IN) i u v S k = (S.dropLast.dropLast ++ [brS (binR vp (lastS S.dropLast).k (lastS S.dropLast).n (lastS S.dropLast).t (lastS S).k (lastS S).n (lastS S).t)], k + 1, (binR vp (lastS S.dropLast).k (lastS S.dropLast).n (lastS S.dropLast).t (lastS S).k (lastS S).n (lastS S).t).c) := rfl
          obtain ⟨F, hF⟩ : ∃ F, F = stR (⟨4, vp, vk, vn, vt⟩ : IN) i u v S k := ⟨_, rfl⟩
          have HN := HNX.out
          have IN' := HIN.out
          have HF : Hid (F = (S.dropLast.dropLast ++ [brS (binR vp (lastS S.dropLast).k (lastS S.dropLast).n (lastS S.dropLast).t (lastS S).k (lastS S).n (lastS S).t)], k + 1, (binR vp (lastS S.dropLast).k (lastS S.dropLast).n (lastS S.dropLast).t (lastS S).k (lastS S).n (lastS S).t).c)) := by unfold Hid; rw [hF, ES]
          have e1 : F.1 = S.dropLast.dropLast ++ [brS (binR vp (lastS S.dropLast).k (lastS S.dropLast).n (lastS S.dropLast).t (lastS S).k (lastS S).n (lastS S).t)] := by rw [HF.out]
          have e2 : F.2.1 = k + 1 := by rw [HF.out]
          have e3 : F.2.2 = (binR vp (lastS S.dropLast).k (lastS S.dropLast).n (lastS S.dropLast).t (lastS S).k (lastS S).n (lastS S).t).c := by rw [HF.out]
          rw [← hF] at HN IN'
          have L3 : Hid (LowB c B V w3) := (L2.out.trans (LowB.of ((Below.refl _ _).drew) lB2)).trans hl3
          have R3 : Hid (∃ a' cap', CRun w3 c B i u v F.1 (F.2.1 : Int) a' cap') := by rw [e1, e2]; exact hc3
          have IN3 : Hid (InR n ds F.1 F.2.1 ∧ k < F.2.1) := IN'
          obtain ⟨cd, hcd⟩ : ∃ x, F.2.2 = x := ⟨_, rfl⟩
          have HN3 : Hid ((if cd = 0 then runR L n i u v g0 F.1 F.2.1 else errE cd) = R) := by unfold Hid; rw [← hcd]; exact HN
          rw [show (binR vp (lastS S.dropLast).k (lastS S.dropLast).n (lastS S.dropLast).t (lastS S).k (lastS S).n (lastS S).t).c = cd by rw [← hcd, e3]]
          clear HF e1 e2 e3 hcd IN' HN hc3 hl3 ES hF C f0 y0 y1 y2 y3 y4 TK
          by_cases hcd0 : cd = 0
          · have hnz : (cd != 0) = false := by simp [hcd0]
            have HCD : Hid (cd = 0) := hcd0
            clear hcd0
            have HN4 : Hid (runR L n i u v g0 F.1 F.2.1 = R) := by unfold Hid; have := HN3.out; rw [if_pos HCD.out] at this; exact this
            obtain ⟨a', cap', r3⟩ := R3.out
            have R4 : Hid (CRun w3 c B i u v F.1 (F.2.1 : Int) a' cap') := r3
            obtain ⟨S', hS'⟩ : ∃ x, F.1 = x := ⟨_, rfl⟩
            obtain ⟨k', hk'⟩ : ∃ x, F.2.1 = x := ⟨_, rfl⟩
            rw [hS', hk'] at R4 HN4 IN3
            have lt' := IN3.out.2
            have IN4 : Hid (InR n ds S' k') := IN3.out.1
            have kn' := IN4.out.kn
            have ME : Hid (nxt w3 c = k') := R4.out.nxt
            have MW : Hid (nxt wr c = k) := HK.out
            clear r3 hS' hk' R3 IN3 HN3
            go_wp2
            exact ⟨⟨S', k', g0, a', cap', R4, IN4, L3, by omega, HN4⟩, by rw [ME.out, MW.out]; omega⟩
          · have hnz : (cd != 0) = true := by simp [hcd0]
            have HE0 : Hid (R = errE cd) := by unfold Hid; have := HN3.out; rw [if_neg hcd0] at this; exact this.symm
            have Z3 : Box w3 w.heap.size 29 #[.int .i64 0, .int .i64 0, .string ⟨#[]⟩] := L3.out.box ZV.out (by omega) (by omega)
            obtain ⟨z0, z1, z2⟩ := box3 Z3
            have t0 := Z3.thaw 0
            have t1 := Z3.thaw 1
            have t2 := Z3.thaw 2
            have HZ : Hid (Box w3 w.heap.size 29 #[.int .i64 0, .int .i64 0, .string ⟨#[]⟩]) := Z3
            clear hcd0 Z3 HN3 R3 IN3
            go_wp2
            refine ret32 Tryd.results28 rfl rfl rfl (put3_box HZ.out _ _ _) ⟨by rw [HE0.out]; rfl, ?_⟩
            exact put3_below (BV.out.trans (L3.out.below (by omega) (by omega))) (by omega) _ _ _
          --@@
      by_cases ho5 : vo = 5
      · subst ho5
        have tk : (1 : Int) ≤ (S.length : Int) := by have q1 := TK.out; have q2 := IR.out.l; rw [show tak (5 : Int) = 1 from rfl] at q1; omega
        have C := c_mno c B i u v S ((k : Int) + 1) a cap W2.drew (R2.out.below (Below.refl _ _).drew) hcB (show B ≤ W2.drew.heap.size from lB2) (⟨5, vp, vk, vn, vt⟩ : IN) hs9 (by omega)
        dsimp only at C
        have f0 : W2.cell? ⟨w.heap.size + 1, 5, none⟩ = some (.func (Fn.func 53) #[.pointer (some ⟨c, 0, none⟩)] #[]) := D2.out.cell 5
        obtain ⟨y0, y1, y2, y3, y4⟩ := box5 A2.out
        clear hs9
        --@o5
        go_wp2_with fail
        go_region_with (go_at_call 53; refine C.mono ?_; rintro e w3 ⟨rfl, hc3, hl3⟩)
        all_goals
          have ES : stR (⟨5, vp, vk, vn, vt⟩ : IN) i u v S k = (jS 12 S, (if decB 12 (lastS S).k (lastS S).n then vp.toNat else k + 1), 0) := by
            show (if decB 12 (lastS S).k (lastS S).n then (S.dropLast ++ [⟨1, trI ((12 : Int) == 13), ⟨#[]⟩⟩], vp.toNat, (0 : Int)) else (S, k + 1, 0)) = _
            unfold jS
            cases decB 12 (lastS S).k (lastS S).n
            · simp only [Bool.false_eq_true, if_false]; rw [snoc_last (by omega)]
            · rfl
          have EN : jN 12 S ((k : Int) + 1) vp = (((if decB 12 (lastS S).k (lastS S).n then vp.toNat else k + 1) : Nat) : Int) := by
            have hp := just_j HJ.out rfl
            dsimp only at hp
            unfold jN
            cases decB 12 (lastS S).k (lastS S).n
            · simp
            · simp only [if_true]; omega
          rw [EN] at hc3
          obtain ⟨F, hF⟩ : ∃ F, F = stR (⟨5, vp, vk, vn, vt⟩ : IN) i u v S k := ⟨_, rfl⟩
          have HN := HNX.out
          have IN' := HIN.out
          have HF : Hid (F = (jS 12 S, (if decB 12 (lastS S).k (lastS S).n then vp.toNat else k + 1), 0)) := by unfold Hid; rw [hF, ES]
          have e1 : F.1 = jS 12 S := by rw [HF.out]
          have e2 : F.2.1 = (if decB 12 (lastS S).k (lastS S).n then vp.toNat else k + 1) := by rw [HF.out]
          have e3 : F.2.2 = 0 := by rw [HF.out]
          rw [← hF] at HN IN'
          have L3 : Hid (LowB c B V w3) := (L2.out.trans (LowB.of ((Below.refl _ _).drew) lB2)).trans hl3
          have R3 : Hid (∃ a' cap', CRun w3 c B i u v F.1 (F.2.1 : Int) a' cap') := by rw [e1, e2]; exact hc3
          have IN3 : Hid (InR n ds F.1 F.2.1 ∧ k < F.2.1) := IN'
          obtain ⟨cd, hcd⟩ : ∃ x, F.2.2 = x := ⟨_, rfl⟩
          have HN3 : Hid ((if cd = 0 then runR L n i u v g0 F.1 F.2.1 else errE cd) = R) := by unfold Hid; rw [← hcd]; exact HN
          have hcd0 : cd = 0 := by rw [← hcd, e3]
          clear HF e1 e2 e3 hcd IN' HN hc3 hl3 ES hF EN C f0 y0 y1 y2 y3 y4 TK
          subst hcd0
          have hcd0 : (0 : Int) = 0 := rfl
          have HN4 : Hid (runR L n i u v g0 F.1 F.2.1 = R) := by unfold Hid; have := HN3.out; rw [if_pos hcd0] at this; exact this
          obtain ⟨a', cap', r3⟩ := R3.out
          have R4 : Hid (CRun w3 c B i u v F.1 (F.2.1 : Int) a' cap') := r3
          obtain ⟨S', hS'⟩ : ∃ x, F.1 = x := ⟨_, rfl⟩
          obtain ⟨k', hk'⟩ : ∃ x, F.2.1 = x := ⟨_, rfl⟩
          rw [hS', hk'] at R4 HN4 IN3
          have lt' := IN3.out.2
          have IN4 : Hid (InR n ds S' k') := IN3.out.1
          have kn' := IN4.out.kn
          have ME : Hid (nxt w3 c = k') := R4.out.nxt
          have MW : Hid (nxt wr c = k) := HK.out
          clear r3 hS' hk' R3 IN3 HN3 hcd0
          go_wp2
          exact ⟨⟨S', k', g0, a', cap', R4, IN4, L3, by omega, HN4⟩, by rw [ME.out, MW.out]; omega⟩
          --@@
      by_cases ho6 : vo = 6
      · subst ho6
        have tk : (1 : Int) ≤ (S.length : Int) := by have q1 := TK.out; have q2 := IR.out.l; rw [show tak (6 : Int) = 1 from rfl] at q1; omega
        have C := c_myes c B i u v S ((k : Int) + 1) a cap W2.drew (R2.out.below (Below.refl _ _).drew) hcB (show B ≤ W2.drew.heap.size from lB2) (⟨6, vp, vk, vn, vt⟩ : IN) hs9 (by omega)
        dsimp only at C
        have f0 : W2.cell? ⟨w.heap.size + 1, 6, none⟩ = some (.func (Fn.func 54) #[.pointer (some ⟨c, 0, none⟩)] #[]) := D2.out.cell 6
        obtain ⟨y0, y1, y2, y3, y4⟩ := box5 A2.out
        clear hs9
        --@o6
        go_wp2_with fail
        go_region_with (go_at_call 54; refine C.mono ?_; rintro e w3 ⟨rfl, hc3, hl3⟩)
        all_goals
          have ES : stR (⟨6, vp, vk, vn, vt⟩ : IN) i u v S k = (jS 13 S, (if decB 13 (lastS S).k (lastS S).n then vp.toNat else k + 1), 0) := by
            show (if decB 13 (lastS S).k (lastS S).n then (S.dropLast ++ [⟨1, trI ((13 : Int) == 13), ⟨#[]⟩⟩], vp.toNat, (0 : Int)) else (S, k + 1, 0)) = _
            unfold jS
            cases decB 13 (lastS S).k (lastS S).n
            · simp only [Bool.false_eq_true, if_false]; rw [snoc_last (by omega)]
            · rfl
          have EN : jN 13 S ((k : Int) + 1) vp = (((if decB 13 (lastS S).k (lastS S).n then vp.toNat else k + 1) : Nat) : Int) := by
            have hp := just_j HJ.out rfl
            dsimp only at hp
            unfold jN
            cases decB 13 (lastS S).k (lastS S).n
            · simp
            · simp only [if_true]; omega
          rw [EN] at hc3
          obtain ⟨F, hF⟩ : ∃ F, F = stR (⟨6, vp, vk, vn, vt⟩ : IN) i u v S k := ⟨_, rfl⟩
          have HN := HNX.out
          have IN' := HIN.out
          have HF : Hid (F = (jS 13 S, (if decB 13 (lastS S).k (lastS S).n then vp.toNat else k + 1), 0)) := by unfold Hid; rw [hF, ES]
          have e1 : F.1 = jS 13 S := by rw [HF.out]
          have e2 : F.2.1 = (if decB 13 (lastS S).k (lastS S).n then vp.toNat else k + 1) := by rw [HF.out]
          have e3 : F.2.2 = 0 := by rw [HF.out]
          rw [← hF] at HN IN'
          have L3 : Hid (LowB c B V w3) := (L2.out.trans (LowB.of ((Below.refl _ _).drew) lB2)).trans hl3
          have R3 : Hid (∃ a' cap', CRun w3 c B i u v F.1 (F.2.1 : Int) a' cap') := by rw [e1, e2]; exact hc3
          have IN3 : Hid (InR n ds F.1 F.2.1 ∧ k < F.2.1) := IN'
          obtain ⟨cd, hcd⟩ : ∃ x, F.2.2 = x := ⟨_, rfl⟩
          have HN3 : Hid ((if cd = 0 then runR L n i u v g0 F.1 F.2.1 else errE cd) = R) := by unfold Hid; rw [← hcd]; exact HN
          have hcd0 : cd = 0 := by rw [← hcd, e3]
          clear HF e1 e2 e3 hcd IN' HN hc3 hl3 ES hF EN C f0 y0 y1 y2 y3 y4 TK
          subst hcd0
          have hcd0 : (0 : Int) = 0 := rfl
          have HN4 : Hid (runR L n i u v g0 F.1 F.2.1 = R) := by unfold Hid; have := HN3.out; rw [if_pos hcd0] at this; exact this
          obtain ⟨a', cap', r3⟩ := R3.out
          have R4 : Hid (CRun w3 c B i u v F.1 (F.2.1 : Int) a' cap') := r3
          obtain ⟨S', hS'⟩ : ∃ x, F.1 = x := ⟨_, rfl⟩
          obtain ⟨k', hk'⟩ : ∃ x, F.2.1 = x := ⟨_, rfl⟩
          rw [hS', hk'] at R4 HN4 IN3
          have lt' := IN3.out.2
          have IN4 : Hid (InR n ds S' k') := IN3.out.1
          have kn' := IN4.out.kn
          have ME : Hid (nxt w3 c = k') := R4.out.nxt
          have MW : Hid (nxt wr c = k) := HK.out
          clear r3 hS' hk' R3 IN3 HN3 hcd0
          go_wp2
          exact ⟨⟨S', k', g0, a', cap', R4, IN4, L3, by omega, HN4⟩, by rw [ME.out, MW.out]; omega⟩
          --@@
      exact absurd JV.out.1 (by omega)
    · have e : k = n := by omega
      subst e
      have ER : Hid (R = ⟨(lastS S).k, (lastS S).n, (lastS S).t, 0⟩) := run_end (by omega) HE.out
      have hl1 : S.length = 1 := by have q1 := IR.out.l; have q2 := HDS.out.e; omega
      have C := c_pop c B i u v S (k : Int) a cap wr R0.out hcB lBr (by omega) (by omega)
      have w8 : wr.cell? ⟨c, 8, none⟩ = some (.int .i64 (k : Int)) := R0.out.x.cell 8
      --@e
      go_wp2_with fail
      refine C.mono ?_
      rintro e w3 ⟨rfl, hc3, hl3⟩
      have L3 : Hid (LowB c B V w3) := LW.out.trans (hl3.mono lBr)
      have Z3 : Box w3 w.heap.size 29 #[.int .i64 0, .int .i64 0, .string ⟨#[]⟩] := L3.out.box ZV.out (by omega) (by omega)
      obtain ⟨z0, z1, z2⟩ := box3 Z3
      have t0 := Z3.thaw 0
      have t1 := Z3.thaw 1
      have t2 := Z3.thaw 2
      have HZ : Hid (Box w3 w.heap.size 29 #[.int .i64 0, .int .i64 0, .string ⟨#[]⟩]) := Z3
      clear Z3 hc3 hl3 C
      go_wp2
      refine ret32 Tryd.results28 rfl rfl rfl (put3_box HZ.out _ _ _) ⟨by rw [ER.out]; rfl, ?_⟩
      exact put3_below (BV.out.trans (L3.out.below (by omega) (by omega))) (by omega) _ _ _
      --@@

end Go.Proofs.YtcgcaomaofppiaaDoor
