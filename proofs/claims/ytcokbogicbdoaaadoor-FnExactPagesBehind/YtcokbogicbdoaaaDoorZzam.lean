/-
  How a disk that came in is read.
-/
import Derived.Test.YtcokbogicbdoaaaDoorPdq
import Derived.Test.YtcokbogicbdoaaaDoorYtcq
import Derived.Test.YtcokbogicbdoaaaDoorDkq
import Derived.ProofKit
import Derived.OpenShut
import Derived.SliceStrings
import Derived.ChangeSlices
import Derived.Lib.SmallJoins
import Derived.Deep.Slices
import Derived.Deep.Strs
namespace Go.Proofs.YtcokbogicbdoaaaDoor
open Go Go.RowKit
attribute [local go_sem ↓] Go.wp_at_zero Go.wp_at_succ

set_option maxHeartbeats 1000000 in
theorem c_slEq (a a' : Option Addr) (n cap n' cap' : Nat) (zs zs' : List (ByteArray)) (w : World) (hr : RdV w a n (zs.map Value.string)) (hr' : RdV w a' n' (zs'.map Value.string)) (hn : n ≤ 1048576) (hn' : n' ≤ 1048576) :
    Calls Tryd.prog 54 #[.slice a n cap, .slice a' n' cap'] w fun e w' => e = .returned (.bool (decide (zs = zs'))) ∧ ∃ q, w' = w.drewN q := by
  obtain ⟨hl, hcs⟩ := hr
  obtain ⟨hl', hcs'⟩ := hr'
  simp only [List.length_map] at hl hl'
  by_cases hnn : n = n'
  · subst hnn
    have hll : zs.length = zs'.length := by omega
    go_enter Tryd.func54, Tryd.ntmps54
    go_wp2
    go_loopw [13] (fun i wr => ∃ k : Nat, k ≤ n ∧ i = .int .i64 k ∧ Hid (sameToS zs zs' k) ∧ ∃ q, wr = w.drewN q) (fun i _ => n - (intOf i).toNat)
    case atStart => exact ⟨0, by omega, rfl, fun j h => absurd h (by omega), 0, rfl⟩
    case round =>
      obtain ⟨k, hk, rfl, HS, q, rfl⟩ := hrel
      by_cases hlt : k < n
      · obtain ⟨b, off, rfl, _, hc⟩ := hcs (by omega)
        obtain ⟨b', off', rfl, _, hc'⟩ := hcs' (by omega)
        obtain ⟨z, hz⟩ : ∃ z, z = zs.getD k (⟨#[]⟩) := ⟨_, rfl⟩
        obtain ⟨z', hz'⟩ : ∃ z, z = zs'.getD k (⟨#[]⟩) := ⟨_, rfl⟩
        have hck : w.cell? ⟨b, off + k, none⟩ = some (Value.string z) := by rw [hz, hc k hlt]; exact map_get _ _ _ _ (by omega)
        have hck' : w.cell? ⟨b', off' + k, none⟩ = some (Value.string z') := by rw [hz', hc' k hlt]; exact map_get _ _ _ _ (by omega)
        have g1 : (0 : Int) ≤ (k : Int) := by omega
        have g2 : (k : Int) < (n : Int) := by omega
        have HZ : Hid (z = zs.getD k (⟨#[]⟩)) := hz
        have HZ' : Hid (z' = zs'.getD k (⟨#[]⟩)) := hz'
        clear hc hc' hcs hcs' hz hz'
        by_cases he : z = z'
        · have HE : Hid (z = z') := he
          have he1 : (z.toList == z'.toList) = true := by simp [he]
          clear he
          go_wp2_with fail
          go_quiet (fail)
          go_wp2
          go_roundw
          case rel => exact ⟨k + 1, by omega, by go_num, fun j hj => if e : j = k then by rw [e, ← HZ.out, ← HZ'.out]; exact HE.out else HS.out j (by omega), _, rfl⟩
          case measure => simp [intOf]; omega
        · have HE : Hid (¬ z = z') := he
          have he1 : (z.toList == z'.toList) = false := by rw [beq_eq_false_iff_ne]; exact fun e => he (toList_inj e)
          clear he
          go_wp2_with fail
          go_quiet (fail)
          go_wp2
          go_ret
          exact ⟨ret_bool (decide_eq_false fun e => HE.out (by rw [HZ.out, HZ'.out, e])).symm, _, World.drewN_drewN _ _ _⟩
      · have e : k = n := by omega
        subst e
        go_wp2
        go_ret
        exact ⟨ret_bool (decide_eq_true (same_allS hll (by rw [hl]; exact HS.out))).symm, q, rfl⟩
  · have hne : ((n : Int) != (n' : Int)) = true := by simp; omega
    go_enter Tryd.func54, Tryd.ntmps54
    go_wp2
    go_ret
    exact ⟨ret_bool (decide_eq_false fun e => hnn (by rw [← hl, ← hl', e])).symm, 0, rfl⟩
/-- A frame is by the log. -/
def byLog (f : FF) (P : G.DG) : Bool := if f.d then decide (P.L < f.fi) && decide (f.fi ≤ f.D.L) else decide (f.D.L = P.L) && decide (f.D.S = P.S)
set_option maxRecDepth 100000 in
set_option maxHeartbeats 8000000 in
theorem c_byLog (no fi : Int) (d : Bool) (h g : G.HG) (D P : G.DG) (w : World) (r : G.RdG w h D) (rp : G.RdG w g P) (hf : G.FitG D) (hp : G.FitG P) :
    Calls Tryd.prog 21 #[.agg #[.int .i64 no, .int .i64 h.l, .slice h.a h.n h.c, .bool d, .int .i64 fi], .agg #[.int .i64 g.l, .slice g.a g.n g.c]] w fun e w' => e = .returned (.bool (byLog ⟨no, h, D, d, fi⟩ P)) ∧ Below w.heap.size w w' := by
  obtain ⟨V, hV⟩ : ∃ V, (w.alloc (.cells #[.int .i64 no, .int .i64 h.l, .slice h.a h.n h.c, .bool d, .int .i64 fi] 51)).alloc (.cells #[.int .i64 g.l, .slice g.a g.n g.c] 49) = V := ⟨_, rfl⟩
  have B0 : Hid (Below w.heap.size w V) := by unfold Hid; rw [← hV]; exact ((Below.refl _ _).alloc (Nat.le_refl _) _).alloc (by simp) _
  have X0 : Hid (Box V w.heap.size 51 #[.int .i64 no, .int .i64 h.l, .slice h.a h.n h.c, .bool d, .int .i64 fi]) := by unfold Hid; rw [← hV]; exact (Box.new _ _ _).alloc _
  have Y0 : Hid (Box V (w.heap.size + 1) 49 #[.int .i64 g.l, .slice g.a g.n g.c]) := by
    unfold Hid; rw [← hV]
    have := Box.new (w.alloc (.cells #[.int .i64 no, .int .i64 h.l, .slice h.a h.n h.c, .bool d, .int .i64 fi] 51)) #[.int .i64 g.l, .slice g.a g.n g.c] 49
    rwa [World.size_alloc] at this
  have r' := r.below B0.out
  have rp' := rp.below B0.out
  have e1 : h.l = D.L := r.1
  have e2 : g.l = P.L := rp.1
  have CE : Hid (Calls Tryd.prog 54 #[.slice h.a h.n h.c, .slice g.a g.n g.c] V fun e w' => e = .returned (.bool (decide (D.S = P.S))) ∧ ∃ q, w' = V.drewN q) := c_slEq h.a g.a h.n h.c g.n g.c D.S P.S V r'.2 rp'.2 (by have := r.len; have := hf.1; omega) (by have := rp.len; have := hp.1; omega)
  have FE : Hid (byLog ⟨no, h, D, d, fi⟩ P = if d then decide (g.l < fi) && decide (fi ≤ h.l) else decide (h.l = g.l) && decide (D.S = P.S)) := by unfold Hid byLog; rw [e1, e2]
  clear r rp r' rp' hf hp e1 e2
  obtain ⟨x0, x1, x2, x3, x4⟩ := box5 X0.out
  obtain ⟨y0, y1⟩ := G.box2 Y0.out
  cases d
  · by_cases hl : h.l = g.l
    case neg =>
      have E : Hid (byLog ⟨no, h, D, false, fi⟩ P = false) := by unfold Hid; rw [FE.out, decide_eq_false hl]; rfl
      have c1 : (h.l == g.l) = false := by simpa using hl
      clear hl FE
      go_enter Tryd.func21, Tryd.ntmps21
      go_wp2
      go_ret
      exact ⟨ret_bool E.out.symm, B0.out⟩
    have E : Hid (byLog ⟨no, h, D, false, fi⟩ P = decide (D.S = P.S)) := by unfold Hid; rw [FE.out, decide_eq_true hl]; simp
    have c1 : (h.l == g.l) = true := by simpa using hl
    clear hl FE
    go_enter Tryd.func21, Tryd.ntmps21
    go_wp2_with fail
    refine CE.out.mono ?_
    rintro e w1 ⟨rfl, q, rfl⟩
    go_wp2
    go_ret
    exact ⟨ret_bool E.out.symm, below_drewN B0.out _⟩
  · by_cases h1 : g.l < fi
    case neg =>
      have E : Hid (byLog ⟨no, h, D, true, fi⟩ P = false) := by unfold Hid; rw [FE.out, decide_eq_false h1]; rfl
      clear FE
      go_enter Tryd.func21, Tryd.ntmps21
      go_wp2
      go_ret
      exact ⟨ret_bool E.out.symm, B0.out⟩
    by_cases h2 : fi ≤ h.l
    · have E : Hid (byLog ⟨no, h, D, true, fi⟩ P = true) := by unfold Hid; rw [FE.out, decide_eq_true h1, decide_eq_true h2]; rfl
      clear FE
      go_enter Tryd.func21, Tryd.ntmps21
      go_wp2
      go_ret
      exact ⟨ret_bool E.out.symm, B0.out⟩
    · have E : Hid (byLog ⟨no, h, D, true, fi⟩ P = false) := by unfold Hid; rw [FE.out, decide_eq_true h1, decide_eq_false h2]; rfl
      clear FE
      go_enter Tryd.func21, Tryd.ntmps21
      go_wp2
      go_ret
      exact ⟨ret_bool E.out.symm, B0.out⟩

end Go.Proofs.YtcokbogicbdoaaaDoor
namespace Go.Proofs.YtcokbogicbdoaaaDoor
open Go Go.RowKit Go.ChangeShapes Go.WideShapes Go.Deep Go.WideElems

attribute [local go_sem ↓] Go.wp_at_zero Go.wp_at_succ

theorem rdV_of_row {α : Type} {w : World} {x : Addr} {len cap : Nat} {zs : List α} (f : α → Value) (d : α) (hl : len ≤ cap) (hz : zs.length = cap) (hcell : ∀ i, i < zs.length → w.cell? (x.add i) = some (f (zs.getD i d))) : RdV w (some x) len ((zs.take len).map f) := by
  refine ⟨by simp; omega, fun h => ?_⟩
  obtain ⟨b, off, spot⟩ := x
  have hc := hcell 0 (by omega)
  have hspot : spot = none := by simpa [Addr.add] using World.cell?_spot hc
  subst hspot
  refine ⟨b, off, rfl, World.block_lt_of_cell? w ⟨b, off, none⟩ (by have := hc; rwa [addr_add] at this), fun i hi => ?_⟩
  have := hcell i (by omega)
  rw [addr_add] at this
  rw [this, map_get f (zs.take len) d i (by simp; omega), List.getD_eq_getElem?_getD, List.getD_eq_getElem?_getD, List.getElem?_take_of_lt hi]
set_option maxRecDepth 100000 in
theorem open_pendings {H : Type} {enc : TypeId × Value → H} {P : Program} {w : World} {base : Nat} {spare : Nat → Bool} {held : Bool} {t e : TypeId} {fuel : Nat} {cs : List Value} {x : DataW H × List MemPlace} {f0 f1 : Field}
    (ht : P.underlying t = some (.slice e)) (hs : P.underlying e = some (.struct #[f0, f1])) (hone : oneCellFields P #[f0, f1] = true) (hC : P.cellsOf e = 2)
    (u0 : P.underlying f0.type = some (.int .i64)) (u1 : P.underlying f1.type = some .string)
    (h : DataW.trod enc P w base spare held fuel t cs = some x) :
    cs = [.slice none 0 0] ∨ ∃ (a : Addr) (len cap : Nat) (vs : List PP), cs = [.slice (some a) len cap] ∧ len ≤ maxLen ∧ RdP w (some a) len vs ∧ ∀ v ∈ vs, v.2.size ≤ maxLen := by
  rcases Go.Deep.open_slice ht h with ⟨h0, _⟩ | ⟨a, len, cap, m, n, D, Pl, hcs, hb, hl, hm, he, hx, hc⟩
  · exact .inl h0
  · right
    have hlm : len ≤ m := by rw [he]; split <;> omega
    have hone' : ∀ i, i < len → ∃ v : PP, (w.cell? (a.add (i * 2)) = some (.int .i64 v.1) ∧ w.cell? (a.add (i * 2 + 1)) = some (.string v.2)) ∧ v.2.size ≤ maxLen := by
      intro i hi
      obtain ⟨cs', h1, h2⟩ := hc i (by omega)
      rw [hC] at h1
      obtain ⟨_, hl3, hg⟩ := World.cells?_some h1
      obtain ⟨xs, n', _, _, _, hlen, hf⟩ := DataW.trod_struct hs h2
      obtain ⟨o0, k0⟩ := hone_of hone 0 f0 rfl
      obtain ⟨o1, k1⟩ := hone_of hone 1 f1 rfl
      match xs, hlen, cs', hl3 with
      | [y0, y1], _, [c0, c1], _ =>
        have g0 := hf 0 f0 rfl
        have g1 := hf 1 f1 rfl
        have g0' : DataW.trod enc P w base spare held n' f0.type [c0] = some y0 := by simpa [o0, k0] using g0
        have g1' : DataW.trod enc P w base spare held n' f1.type [c1] = some y1 := by simpa [o1, k1] using g1
        obtain ⟨z0, e0, _, _⟩ := DataW.trod_int u0 g0'
        obtain ⟨s2, e2, _, ws⟩ := DataW.trod_string u1 g1'
        simp at e0 e2
        subst e0 e2
        have q0 := hg 0 (by omega)
        have q1 := hg 1 (by omega)
        rw [Go.Deep.add_add] at q0 q1
        exact ⟨(z0, s2), ⟨q0, q1⟩, ws⟩
    obtain ⟨f, hf⟩ := Go.Deep.choose_lt (α := PP) hone'
    refine ⟨a, len, cap, (List.range len).map f, hcs, by omega, ⟨by simp, fun hpos => ?_⟩, ?_⟩
    · obtain ⟨b, off, spot⟩ := a
      have hc0 := (hf 0 hpos).1.1
      have hspot : spot = none := by simpa [Addr.add] using World.cell?_spot hc0
      subst hspot
      refine ⟨b, off, rfl, World.block_lt_of_cell? w ⟨b, off, none⟩ (by have := hc0; rwa [addr_add, show off + 0 * 2 = off by omega] at this), fun i hi => ?_⟩
      have hg := (hf i hi).1
      rw [addr_add, addr_add] at hg
      have hd : ((List.range len).map f).getD i dP = f i := by rw [List.getD_eq_getElem?_getD, List.getElem?_map, List.getElem?_range hi]; rfl
      rw [hd]
      exact hg
    · intro v hv
      obtain ⟨i, hi, rfl⟩ := List.mem_map.1 hv
      exact (hf i (List.mem_range.1 hi)).2
set_option maxRecDepth 100000 in
theorem open_texts {H : Type} {enc : TypeId × Value → H} {w : World} {held : Bool} {fuel : Nat} {v : Value} {x : DataW H × List MemPlace} (h : DataW.trod enc Tryd.prog w 0 (fun _ => true) held fuel 22 [v] = some x) :
    ∃ a n c, ∃ ss : List ByteArray, v = .slice a n c ∧ RdV w a n (ss.map Value.string) ∧ n ≤ maxLen ∧ ∀ s ∈ ss, s.size ≤ maxLen := by
  rcases open_strings Tryd.underlying22 Tryd.underlying9 (by kernel_rfl) h with ⟨hcs, _⟩ | ⟨x, l, c, ss, hcs, _, hl, hm, hz, _, hcell, hwz⟩
  · simp at hcs
    exact ⟨none, 0, 0, [], hcs, ⟨rfl, fun h => absurd h (by omega)⟩, by unfold maxLen; omega, fun _ h => by cases h⟩
  · simp at hcs
    exact ⟨some x, l, c, _, hcs, rdV_of_row Value.string _ hl (by simpa using hz) hcell, by omega, fun s h => hwz s (List.mem_of_mem_take h)⟩
set_option maxRecDepth 100000 in
theorem open_numbers {H : Type} {enc : TypeId × Value → H} {w : World} {held : Bool} {fuel : Nat} {v : Value} {x : DataW H × List MemPlace} (h : DataW.trod enc Tryd.prog w 0 (fun _ => true) held fuel 24 [v] = some x) :
    ∃ a n c, ∃ zs : List Int, v = .slice a n c ∧ RdV w a n (zs.map (Value.int .i64)) ∧ n ≤ maxLen := by
  rcases open_ints Tryd.underlying24 Tryd.underlying3 (by kernel_rfl) h with ⟨hcs, _⟩ | ⟨x, l, c, zs, hcs, _, hl, hm, hz, _, hcell, hwz⟩
  · simp at hcs
    exact ⟨none, 0, 0, [], hcs, ⟨rfl, fun h => absurd h (by omega)⟩, by unfold maxLen; omega⟩
  · simp at hcs
    exact ⟨some x, l, c, _, hcs, rdV_of_row (Value.int .i64) _ hl (by simpa using hz) hcell, by omega⟩
set_option maxRecDepth 100000 in
theorem open_disk {H : Type} {enc : TypeId × Value → H} {w : World} {held : Bool} {r : Reach} {b0 : Nat} {v : Value} {d : DataW H} {p : List MemPlace} (hv : Value.okWide Tryd.prog w r b0 26 v) (h : DataW.Trod enc Tryd.prog w 0 (fun _ => true) held 26 v d p) :
    ∃ (h : HD) (D : DD), v = .agg #[.slice h.a0 h.n0 h.c0, .slice h.a1 h.n1 h.c1, .bool h.b, .slice h.a2 h.n2 h.c2] ∧ RdD w h D ∧ h.n0 ≤ maxLen ∧ h.n1 ≤ maxLen ∧ h.n2 ≤ maxLen ∧ (∀ s ∈ D.S, s.size ≤ maxLen) ∧ ∀ p ∈ D.C, p.2.size ≤ maxLen := by
  obtain ⟨v0, v1, v2, v3, y0, y1, y2, y3, n, rfl, _, _, h0, h1, h2, h3⟩ := Go.Joins.open_agg4 Tryd.underlying26 (by kernel_rfl) (by kernel_rfl) hv h
  obtain ⟨a0, n0, c0, ss, rfl, r0, m0, s0⟩ := open_texts h0
  obtain ⟨a2, n2, c2, zs, rfl, r2, m2⟩ := open_numbers h3
  obtain ⟨b, e2, _⟩ := DataW.trod_bool Tryd.underlying4 h2
  simp at e2
  subst e2
  obtain ⟨a1, n1, c1, vs, rfl, r1, m1, s1⟩ : ∃ a n c, ∃ vs : List PP, v1 = .slice a n c ∧ RdP w a n vs ∧ n ≤ maxLen ∧ ∀ p ∈ vs, p.2.size ≤ maxLen := by
    rcases open_pendings Tryd.underlying23 Tryd.underlying107 (by kernel_rfl) (by kernel_rfl) Tryd.underlying3 Tryd.underlying9 h1 with hcs | ⟨x, l, c, vs, hcs, hm, hr, hz⟩
    · simp at hcs
      exact ⟨none, 0, 0, [], hcs, ⟨rfl, fun h => absurd h (by omega)⟩, by unfold maxLen; omega, fun _ h => by cases h⟩
    · simp at hcs
      exact ⟨some x, l, c, vs, hcs, hr, hm, hz⟩
  exact ⟨⟨a0, n0, c0, a1, n1, c1, b, a2, n2, c2⟩, ⟨ss, vs, b, zs⟩, rfl, ⟨rfl, r0, r1, r2⟩, m0, m1, m2, s0, s1⟩

end Go.Proofs.YtcokbogicbdoaaaDoor
