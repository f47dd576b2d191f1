/-
  The law of ParseExpr.
-/
import Derived.Test.YtbpfpjmjmkpjoaaGreatDoorZme
import Derived.Test.YtbpfpjmjmkpjoaaGreatDoorZmd
import Derived.Test.YtbpfpjmjmkpjoaaGreatDoorMk
import Derived.Test.YtbpfpjmjmkpjoaaGreatDoorXa
import Derived.Deep.RegionHeld3
import Derived.Test.YtbpfpjmjmkpjoaaGreatDoorLh
namespace Go.Proofs.YtbpfpjmjmkpjoaaGreatDoor
open Go Go.RowKit
attribute [local go_sem ↓] Go.wp_at_zero Go.wp_at_succ

set_option linter.unusedVariables false
set_option linter.unusedSimpArgs false
theorem val_size {k n : Int} {t : ByteArray} (h : valB k n t = true) : t.size ≤ maxLen := by
  unfold valB at h
  have emp : ∀ {b : Bool}, (b && t.toList.isEmpty) = true → t.size ≤ maxLen := fun {b} h => by
    cases b with
    | false => cases h
    | true =>
      have h1 : t.toList = [] := by simpa using h
      rw [toList_data] at h1
      have h2 : t.size = 0 := by show t.data.size = 0; rw [← Array.length_toList, h1]; rfl
      unfold maxLen; omega
  split at h
  · exact emp h
  · split at h
    · exact emp h
    · split at h
      · simp only [Bool.and_eq_true, wordB, decide_eq_true_eq] at h
        unfold maxLen; omega
      · cases h
theorem nodes_small : ∀ (p : PT) (m : Nat), p.ok = true → ∀ v ∈ nodesP p m, v.t.size ≤ maxLen
  | .con k n t, m, h, v, hv => by
    simp only [nodesP, List.mem_cons, List.not_mem_nil, or_false] at hv
    subst hv; exact val_size h
  | .col c, m, h, v, hv => by
    simp only [nodesP, List.mem_cons, List.not_mem_nil, or_false] at hv
    subst hv; exact Nat.zero_le _
  | .una op p, m, h, v, hv => by
    have h2 : inB op 3 5 = true ∧ p.ok = true := by simpa [PT.ok] using h
    rw [nodesP] at hv
    rcases List.mem_append.1 hv with h1 | h1
    · exact nodes_small p m h2.2 v h1
    · simp only [List.mem_cons, List.not_mem_nil, or_false] at h1
      subst h1; exact Nat.zero_le _
  | .bin op l r, m, h, v, hv => by
    have h2 : inB op 6 13 = true ∧ l.ok = true ∧ r.ok = true := by simpa [PT.ok] using h
    rw [nodesP] at hv
    rcases List.mem_append.1 hv with h1 | h1
    · rcases List.mem_append.1 h1 with h3 | h3
      · exact nodes_small l m h2.2.1 v h3
      · exact nodes_small r _ h2.2.2 v h3
    · simp only [List.mem_cons, List.not_mem_nil, or_false] at h1
      subst h1; exact Nat.zero_le _
/-- What l10Parse answers. -/
def LpA (B : Nat) (T : List ByteArray) (rf : Res) (e : Ending) (w' : World) : Prop :=
  match rf with
  | .err c => e = .returned (.tuple #[.agg #[.slice none 0 0], .int .i64 0, .int .i64 c]) ∧ ((c == 0) = false)
  | .ok p T1 _ => ∃ (a : Option Addr) (c i' : Nat), e = .returned (.tuple #[.agg #[.slice a (nodesP p 0).length c], .int .i64 (i' : Int), .int .i64 0]) ∧ T.drop i' = T1 ∧ i' ≤ T.length ∧ w'.ownsRow B 86 7 (.slice a (nodesP p 0).length c) (nodesP p 0).length (cellsE (nodesP p 0))
set_option maxRecDepth 100000 in
set_option maxHeartbeats 8000000 in
theorem s_lpE (T : List ByteArray) (a : Option Addr) (c : Nat) (w : World) (hTl : T.length ≤ 1000) (ht : TkR w.heap.size w a T) (z : Int) (r : Res) (hr : r = .err z) (hp : Parses (.ch .or) 0 T 0 r) :
    Calls Tryz.prog 39 #[.slice a T.length c, .int .i64 0] w fun e w' => LpA w.heap.size T (.err z) e w' ∧ Below w.heap.size w w' := by
  obtain ⟨U, hU⟩ : ∃ Q, w.alloc (.cells #[.slice none 0 0] 24) = Q := ⟨_, rfl⟩
  obtain ⟨U2, hU2⟩ : ∃ Q, U.alloc (.cells #[] 86) = Q := ⟨_, rfl⟩
  obtain ⟨V, hV⟩ : ∃ Q, U2.alloc (.cells #[.slice a T.length c, .int .i64 0, .slice (some ⟨w.heap.size + 1, 0, none⟩) 0 0, .int .i64 0, .int .i64 0] 104) = Q := ⟨_, rfl⟩
  have HV : Hid (((w.alloc (.cells #[.slice none 0 0] 24)).alloc (.cells #[] 86)).alloc (.cells #[.slice a T.length c, .int .i64 0, .slice (some ⟨w.heap.size + 1, 0, none⟩) 0 0, .int .i64 0, .int .i64 0] 104) = V) := by unfold Hid; rw [hU, hU2, hV]
  have bU : Below w.heap.size w U := by rw [← hU]; exact (Below.refl _ _).alloc (Nat.le_refl _) _
  have sU : U.heap.size = w.heap.size + 1 := by rw [← hU]; simp
  have bU2 : Below U.heap.size U U2 := by rw [← hU2]; exact (Below.refl _ _).alloc (Nat.le_refl _) _
  have sU2 : U2.heap.size = w.heap.size + 2 := by rw [← hU2]; simp [sU]
  have bV : Below U2.heap.size U2 V := by rw [← hV]; exact (Below.refl _ _).alloc (Nat.le_refl _) _
  have XU : Box U w.heap.size 24 #[.slice none 0 0] := by rw [← hU]; exact Box.new _ _ _
  have XV : Hid (Box V w.heap.size 24 #[.slice none 0 0]) := (XU.belowS bU2).belowS bV
  have EU : Box U2 (w.heap.size + 1) 86 #[] := by rw [← sU, ← hU2]; exact Box.new _ _ _
  have OU : U2.ownsRow (w.heap.size + 1) 86 7 (.slice (some ⟨w.heap.size + 1, 0, none⟩) 0 0) 0 [] := ⟨by simp, .inr ⟨w.heap.size + 1, 0, #[], rfl, Nat.le_refl _, EU, Nat.le_refl _, Nat.zero_le _, by simp, by simp⟩⟩
  have b1 : Below w.heap.size w V := bU.trans ((bU2.mono (by omega)).trans (bV.mono (by omega)))
  have SV : StS (w.heap.size + 1) (w.heap.size + 2) V T 0 [] 0 ((0 : Nat) : Int) := by
    refine ⟨a, c, some ⟨w.heap.size + 1, 0, none⟩, 0, ?_, (ht.below b1).up (by omega), own_below OU bV, by omega, Nat.zero_le _, hTl, by simp⟩
    rw [← sU2, ← hV]; exact Box.new _ _ _
  have C := sc_expr T (w.heap.size + 1) (w.heap.size + 2) V T 0 [] 0 r SV (List.drop_zero ..) (by omega) hp
  have B1 : Hid (Below w.heap.size w V) := b1
  have lV : w.heap.size < V.heap.size := XV.out.lt
  clear SV b1 bV bU bU2 XU EU OU sU sU2 hU hU2 hV ht
  subst hr
  clear hp
  go_enter Tryz.func39, Tryz.ntmps39
  go_wp2_with fail
  rw [HV.out]
  refine C.mono ?_
  rintro e w1 ⟨hc, z1, i1, L1, rfl, hs1, hb1⟩
  have HC : (z == 0) = false := hc
  have X1 : Hid (Box w1 w.heap.size 24 #[.slice none 0 0]) := (hb1.block w.heap.size (by omega)).trans XV.out
  have B2 : Hid (Below w.heap.size w w1) := B1.out.trans (hb1.mono (by omega))
  obtain ⟨a0, c0, a2, cap, hx, _⟩ := hs1
  obtain ⟨x0, x1, x2, x3, x4⟩ := box5 hx
  have y0 : w1.cell? ⟨w.heap.size, 0, none⟩ = some (.slice none 0 0) := X1.out.cell 0
  have t0 := X1.out.thaw 0
  have lg := hx.lt
  have ng : w.heap.size + 2 ≠ w.heap.size := by omega
  clear C hb1 XV B1 HV hc hx
  go_wp2_with fail
  go_region
  all_goals
    go_wp2
    refine retX3 (v := .int .i64 0) (v' := .int .i64 z) rfl rfl rfl rfl rfl (put1_box X1.out _) ⟨?_, ?_⟩
    · exact ⟨rfl, HC⟩
    · exact (below_drewN B2.out _).setCell (p := ⟨w.heap.size, 0, none⟩) (Nat.le_refl _) _
set_option maxRecDepth 100000 in
set_option maxHeartbeats 8000000 in
theorem s_lpO (T : List ByteArray) (a : Option Addr) (c : Nat) (w : World) (hTl : T.length ≤ 1000) (ht : TkR w.heap.size w a T) (p : PT) (T1 : List ByteArray) (n1 : Nat) (r : Res) (hr : r = .ok p T1 n1) (hp : Parses (.ch .or) 0 T 0 r) :
    Calls Tryz.prog 39 #[.slice a T.length c, .int .i64 0] w fun e w' => LpA w.heap.size T (finR (.ok p T1 n1)) e w' ∧ Below w.heap.size w w' := by
  obtain ⟨U, hU⟩ : ∃ Q, w.alloc (.cells #[.slice none 0 0] 24) = Q := ⟨_, rfl⟩
  obtain ⟨U2, hU2⟩ : ∃ Q, U.alloc (.cells #[] 86) = Q := ⟨_, rfl⟩
  obtain ⟨V, hV⟩ : ∃ Q, U2.alloc (.cells #[.slice a T.length c, .int .i64 0, .slice (some ⟨w.heap.size + 1, 0, none⟩) 0 0, .int .i64 0, .int .i64 0] 104) = Q := ⟨_, rfl⟩
  have HV : Hid (((w.alloc (.cells #[.slice none 0 0] 24)).alloc (.cells #[] 86)).alloc (.cells #[.slice a T.length c, .int .i64 0, .slice (some ⟨w.heap.size + 1, 0, none⟩) 0 0, .int .i64 0, .int .i64 0] 104) = V) := by unfold Hid; rw [hU, hU2, hV]
  have bU : Below w.heap.size w U := by rw [← hU]; exact (Below.refl _ _).alloc (Nat.le_refl _) _
  have sU : U.heap.size = w.heap.size + 1 := by rw [← hU]; simp
  have bU2 : Below U.heap.size U U2 := by rw [← hU2]; exact (Below.refl _ _).alloc (Nat.le_refl _) _
  have sU2 : U2.heap.size = w.heap.size + 2 := by rw [← hU2]; simp [sU]
  have bV : Below U2.heap.size U2 V := by rw [← hV]; exact (Below.refl _ _).alloc (Nat.le_refl _) _
  have XU : Box U w.heap.size 24 #[.slice none 0 0] := by rw [← hU]; exact Box.new _ _ _
  have XV : Hid (Box V w.heap.size 24 #[.slice none 0 0]) := (XU.belowS bU2).belowS bV
  have EU : Box U2 (w.heap.size + 1) 86 #[] := by rw [← sU, ← hU2]; exact Box.new _ _ _
  have OU : U2.ownsRow (w.heap.size + 1) 86 7 (.slice (some ⟨w.heap.size + 1, 0, none⟩) 0 0) 0 [] := ⟨by simp, .inr ⟨w.heap.size + 1, 0, #[], rfl, Nat.le_refl _, EU, Nat.le_refl _, Nat.zero_le _, by simp, by simp⟩⟩
  have b1 : Below w.heap.size w V := bU.trans ((bU2.mono (by omega)).trans (bV.mono (by omega)))
  have SV : StS (w.heap.size + 1) (w.heap.size + 2) V T 0 [] 0 ((0 : Nat) : Int) := by
    refine ⟨a, c, some ⟨w.heap.size + 1, 0, none⟩, 0, ?_, (ht.below b1).up (by omega), own_below OU bV, by omega, Nat.zero_le _, hTl, by simp⟩
    rw [← sU2, ← hV]; exact Box.new _ _ _
  have C := sc_expr T (w.heap.size + 1) (w.heap.size + 2) V T 0 [] 0 r SV (List.drop_zero ..) (by omega) hp
  have B1 : Hid (Below w.heap.size w V) := b1
  have lV : w.heap.size < V.heap.size := XV.out.lt
  clear SV b1 bV bU bU2 XU EU OU sU sU2 hU hU2 hV ht
  subst hr
  have hg := goes hp (by omega) rfl
  have hok : p.ok = true := hg.2.2.2
  have hc40 : p.cnt ≤ 40 := by have g1 := hg.2.1; have g2 := hg.2.2.1; simp only [Lv.cnt0] at g1; omega
  have HX : Hid (okX (nodesP p 0) (nodesP p 0).length = !decide (12 < p.dep)) := ok_nodes hok hc40
  have HSM : Hid (∀ v ∈ nodesP p 0, v.t.size ≤ maxLen) := nodes_small p 0 hok
  have HL40 : Hid ((nodesP p 0).length ≤ 40) := by unfold Hid; rw [nodes_len]; exact hc40
  clear hp hg hok hc40
  go_enter Tryz.func39, Tryz.ntmps39
  go_wp2_with fail
  rw [HV.out]
  refine C.mono ?_
  rintro e w1 ⟨i1, rfl, hd1, hn1, hs1, hb1⟩
  rw [show ([] : List EN) ++ nodesP p ([] : List EN).length = nodesP p 0 from rfl] at hs1
  have HD1 : Hid (T.drop i1 = T1) := hd1
  have X1 : Hid (Box w1 w.heap.size 24 #[.slice none 0 0]) := (hb1.block w.heap.size (by omega)).trans XV.out
  have B2 : Hid (Below w.heap.size w w1) := B1.out.trans (hb1.mono (by omega))
  obtain ⟨M, hM⟩ : ∃ M, nodesP p 0 = M := ⟨_, rfl⟩
  have HM : Hid (nodesP p 0 = M) := hM
  rw [hM] at hs1 HX HSM HL40
  obtain ⟨a0, c0, a2, cap, hx, _, ho, _, hil, _, _⟩ := hs1
  have HIL : Hid (i1 ≤ T.length) := hil
  have HO : Hid (w1.ownsRow (w.heap.size + 1) 86 7 (.slice a2 M.length cap) M.length (cellsE M)) := ho
  obtain ⟨x0, x1, x2, x3, x4⟩ := box5 hx
  have lg := hx.lt
  obtain ⟨V3, hV3⟩ : ∃ Q, w1.alloc (.cells #[.slice a2 M.length cap] 24) = Q := ⟨_, rfl⟩
  have b3 : Below w1.heap.size w1 V3 := by rw [← hV3]; exact (Below.refl _ _).alloc (Nat.le_refl _) _
  have Y3 : Hid (Box V3 w1.heap.size 24 #[.slice a2 M.length cap]) := by unfold Hid; rw [← hV3]; exact Box.new _ _ _
  have O3 : Hid (V3.ownsRow (w.heap.size + 1) 86 7 (.slice a2 M.length cap) M.length (cellsE M)) := own_below ho b3
  have X3 : Hid (Box V3 w.heap.size 24 #[.slice none 0 0]) := X1.out.belowS b3
  have P3 : Hid (Box V3 (w.heap.size + 2) 104 #[.slice a0 T.length c0, .int .i64 (i1 : Int), .slice a2 M.length cap, .int .i64 0, .int .i64 ((0 : Nat) : Int)]) := hx.belowS b3
  have B3 : Hid (Below w.heap.size w V3) := B2.out.trans (b3.mono B2.out.size)
  have C2 := c_specX M a2 M.length cap V3 (RdE.own O3.out) (by have := HL40.out; omega) HSM.out
  have y0 : V3.cell? ⟨w1.heap.size, 0, none⟩ = some (.slice a2 M.length cap) := Y3.out.cell 0
  have l3 := Y3.out.lt
  clear C hb1 XV B1 HV hd1 hn1 hx ho hil hM X1 B2 b3
  obtain ⟨b, hb⟩ : ∃ b, okX M M.length = b := ⟨_, rfl⟩
  have HB : Hid (b = !decide (12 < p.dep)) := hb.symm.trans HX.out
  rw [hb] at C2
  clear hb HX
  go_wp2_with fail
  refine C2.mono ?_
  rintro e w4 ⟨rfl, hb4⟩
  have X4 : Hid (Box w4 w.heap.size 24 #[.slice none 0 0]) := X3.out.belowS hb4
  have Y4 : Hid (Box w4 w1.heap.size 24 #[.slice a2 M.length cap]) := Y3.out.belowS hb4
  have P4 : Hid (Box w4 (w.heap.size + 2) 104 #[.slice a0 T.length c0, .int .i64 (i1 : Int), .slice a2 M.length cap, .int .i64 0, .int .i64 ((0 : Nat) : Int)]) := P3.out.belowS hb4
  have O4 : Hid (w4.ownsRow (w.heap.size + 1) 86 7 (.slice a2 M.length cap) M.length (cellsE M)) := own_below O3.out hb4
  have B4 : Hid (Below w.heap.size w w4) := B3.out.trans (hb4.mono B3.out.size)
  have u0 : w4.cell? ⟨w.heap.size, 0, none⟩ = some (.slice none 0 0) := X4.out.cell 0
  have v0 : w4.cell? ⟨w1.heap.size, 0, none⟩ = some (.slice a2 M.length cap) := Y4.out.cell 0
  obtain ⟨p0, p1, p2, p3, p4⟩ := box5 P4.out
  have t0 := X4.out.thaw 0
  have l4 := Y4.out.lt
  have lg4 := P4.out.lt
  have n1' : w.heap.size ≠ w.heap.size + 2 := by omega
  have n2' : w.heap.size ≠ w1.heap.size := by omega
  clear C2 hb4 X3 Y3 P3 O3 B3 x0 x1 x2 x3 x4 y0
  by_cases h12 : 12 < p.dep
  · have hbf : b = false := by rw [HB.out, decide_eq_true h12]; rfl
    subst hbf
    have E : Hid (finR (.ok p T1 n1) = .err 16) := by
      unfold Hid
      exact if_pos h12
    clear h12 HB
    go_wp2
    refine retX3 (v := .int .i64 0) (v' := .int .i64 16) rfl rfl rfl rfl rfl (put1_box X4.out _) ⟨?_, ?_⟩
    · rw [E.out]; exact ⟨rfl, by decide⟩
    · exact B4.out.setCell (p := ⟨w.heap.size, 0, none⟩) (Nat.le_refl _) _
  · have hbt : b = true := by rw [HB.out, decide_eq_false h12]; rfl
    subst hbt
    have E : Hid (finR (.ok p T1 n1) = .ok p T1 n1) := by
      unfold Hid
      exact if_neg (t := Res.err 16) h12
    clear h12 HB
    go_wp2_with fail
    go_region
    all_goals
      go_wp2
      refine retX3 (v := .int .i64 (i1 : Int)) (v' := .int .i64 0) rfl rfl rfl rfl rfl (put1_box X4.out _) ⟨?_, ?_⟩
      · rw [E.out]
        refine ⟨a2, cap, i1, by rw [HM.out], HD1.out, HIL.out, ?_⟩
        rw [HM.out]
        refine World.ownsRow.down (own_same O4.out fun x ex => ?_) (Nat.le_succ _)
        rw [ob_slice] at ex
        have := (own_blkN O4.out x ex).1
        exact Below.heap_setCell w4 ⟨w.heap.size, 0, none⟩ _ x (by show x ≠ w.heap.size; omega)
      · exact (below_drewN B4.out _).setCell (p := ⟨w.heap.size, 0, none⟩) (Nat.le_refl _) _
theorem s_lp (T : List ByteArray) (a : Option Addr) (c : Nat) (w : World) (hTl : T.length ≤ 1000) (ht : TkR w.heap.size w a T) (r : Res) (hp : Parses (.ch .or) 0 T 0 r) :
    Calls Tryz.prog 39 #[.slice a T.length c, .int .i64 0] w fun e w' => LpA w.heap.size T (finR r) e w' ∧ Below w.heap.size w w' := by
  cases hr : r with
  | err z => subst hr; exact s_lpE T a c w hTl ht z _ rfl hp
  | ok p T1 n1 => subst hr; exact s_lpO T a c w hTl ht p T1 n1 _ rfl hp

end Go.Proofs.YtbpfpjmjmkpjoaaGreatDoor
namespace Go.Proofs.YtbpfpjmjmkpjoaaGreatDoor
open Go Go.RowKit
attribute [local go_sem ↓] Go.wp_at_zero Go.wp_at_succ

set_option linter.unusedVariables false
set_option linter.unusedSimpArgs false
theorem lexR_len2 (t : ByteArray) : (lexR t).1.length ≤ 500 := lexR_len t
set_option maxRecDepth 100000 in
set_option maxHeartbeats 8000000 in
theorem s_specPE (t : ByteArray) (w : World) (hs : t.size ≤ maxLen) (r : Res) (hr : Parses (.ch .or) 0 (lexR t).1 0 r) :
    Calls Tryz.prog 9 #[.string t] w fun e w' => PeA w.heap.size (peR (lexR t) r) e w' ∧ Below w.heap.size w w' := by
  obtain ⟨V0, hV0⟩ : ∃ Q, w.alloc (.cells #[.slice none 0 0] 24) = Q := ⟨_, rfl⟩
  have b0 : Below w.heap.size w V0 := by rw [← hV0]; exact (Below.refl _ _).alloc (Nat.le_refl _) _
  have X0 : Hid (Box V0 w.heap.size 24 #[.slice none 0 0]) := by unfold Hid; rw [← hV0]; exact Box.new _ _ _
  have B0 : Hid (Below w.heap.size w V0) := b0
  by_cases hbig : (65536 : Int) < (t.size : Int)
  · have E : Hid (peR (lexR t) r = ([], 2)) := by
      unfold Hid lexR
      rw [if_pos (by omega)]
      exact if_neg (by decide)
    have x0 : V0.cell? ⟨w.heap.size, 0, none⟩ = some (.slice none 0 0) := X0.out.cell 0
    have t0 := X0.out.thaw 0
    clear b0 hr
    go_enter Tryz.func9, Tryz.ntmps9
    go_wp2
    refine retX2 (p := 2) (u := 3) (r := w.heap.size) (v0 := .slice none 0 0) (v := .int .i64 2) rfl ?_ ?_ ?_ ?_ ?_
    · rfl
    · rfl
    · rfl
    · exact put1_box X0.out _
    · exact ⟨PeA.no E.out, B0.out.setCell (p := ⟨w.heap.size, 0, none⟩) (Nat.le_refl _) _⟩
  have hs2 : t.size ≤ 65536 := by omega
  have C := c_l10Lex t V0 hs2
  have HTK : Hid (∀ x ∈ (lexR t).1, Tok x) := lexR_tok t
  have HLN : Hid ((lexR t).1.length ≤ 500) := lexR_len2 t
  rw [show lexG t (t.size + 1) (skE t 0) [] = lexR t by unfold lexR; rw [if_neg (by omega)]] at C
  obtain ⟨lx, hlx⟩ : ∃ lx, lexR t = lx := ⟨_, rfl⟩
  rw [hlx] at C HTK HLN hr ⊢
  obtain ⟨T, k⟩ := lx
  have HR : Hid (Parses (.ch .or) 0 T 0 r) := hr
  have HTK2 : Hid (∀ x ∈ T, Tok x) := HTK
  have HLN2 : Hid (T.length ≤ 500) := HLN
  clear hlx hr HTK HLN b0
  go_enter Tryz.func9, Tryz.ntmps9
  go_wp2_with fail
  refine C.mono ?_
  rintro e w1 ⟨⟨a, c, rfl, ho⟩, hb1⟩
  have HO : Hid (w1.ownsRow V0.heap.size 9 1 (.slice a T.length c) T.length (strs T)) := ho
  have X1 : Hid (Box w1 w.heap.size 24 #[.slice none 0 0]) := X0.out.belowS hb1
  have B1 : Hid (Below w.heap.size w w1) := B0.out.trans (hb1.mono B0.out.size)
  have x0 : w1.cell? ⟨w.heap.size, 0, none⟩ = some (.slice none 0 0) := X1.out.cell 0
  have t0 := X1.out.thaw 0
  clear C ho hb1 hV0 X0 B0
  by_cases hk : k = 0
  · subst hk
    obtain ⟨tk1, tk2⟩ := tk_own HO.out HTK2.out
    have C2 := s_lp T a c w1 (by have := HLN2.out; omega) tk1 r HR.out
    have PE : Hid (peR (T, 0) r = match finR r with
      | .err c => ([], c)
      | .ok p T1 _ => if T1 = [] then (nodesP p 0, 0) else ([], 3)) := if_pos rfl
    obtain ⟨rf, hrf⟩ : ∃ rf, finR r = rf := ⟨_, rfl⟩
    rw [hrf] at C2 PE
    clear tk1 tk2 hrf HO HTK2 HR x0 t0
    cases rf with
    | err z =>
      go_wp2_with fail
      refine C2.mono ?_
      rintro e w2 ⟨⟨rfl, hz⟩, hb2⟩
      have X2 : Hid (Box w2 w.heap.size 24 #[.slice none 0 0]) := X1.out.belowS hb2
      have B2 : Hid (Below w.heap.size w w2) := B1.out.trans (hb2.mono B1.out.size)
      have x0 : w2.cell? ⟨w.heap.size, 0, none⟩ = some (.slice none 0 0) := X2.out.cell 0
      have t0 := X2.out.thaw 0
      have lw := X2.out.lt
      clear C2 hb2 X1 B1
      go_wp2
      refine retX2 (v := .int .i64 z) rfl rfl rfl rfl ((put1_box X2.out _).alloc _) ⟨PeA.no PE.out, ?_⟩
      exact (B2.out.setCell (p := ⟨w.heap.size, 0, none⟩) (Nat.le_refl _) _).alloc (by simpa using Nat.le_of_lt lw) _
    | ok p T1 n1 =>
      go_wp2_with fail
      refine C2.mono ?_
      rintro e w2 ⟨⟨a1, c1, i', rfl, hd, hi, ho2⟩, hb2⟩
      have X2 : Hid (Box w2 w.heap.size 24 #[.slice none 0 0]) := X1.out.belowS hb2
      have B2 : Hid (Below w.heap.size w w2) := B1.out.trans (hb2.mono B1.out.size)
      obtain ⟨M, hM⟩ : ∃ M, nodesP p 0 = M := ⟨_, rfl⟩
      have HM : Hid (nodesP p 0 = M) := hM
      have HDI : Hid (T.drop i' = T1 ∧ i' ≤ T.length) := ⟨hd, hi⟩
      rw [hM] at ho2 ⊢
      have O2 : Hid (w2.ownsRow w1.heap.size 86 7 (.slice a1 M.length c1) M.length (cellsE M)) := ho2
      have l1 := X1.out.lt
      obtain ⟨V3, hV3⟩ : ∃ Q, w2.alloc (.cells #[.slice a1 M.length c1] 24) = Q := ⟨_, rfl⟩
      have b3 : Below w2.heap.size w2 V3 := by rw [← hV3]; exact (Below.refl _ _).alloc (Nat.le_refl _) _
      have X3 : Hid (Box V3 w.heap.size 24 #[.slice none 0 0]) := X2.out.belowS b3
      have Y3 : Hid (Box V3 w2.heap.size 24 #[.slice a1 M.length c1]) := by unfold Hid; rw [← hV3]; exact Box.new _ _ _
      have B3 : Hid (Below w.heap.size w V3) := B2.out.trans (b3.mono B2.out.size)
      have O3 : Hid (V3.ownsRow w1.heap.size 86 7 (.slice a1 M.length c1) M.length (cellsE M)) := own_below O2.out b3
      have x0 : V3.cell? ⟨w.heap.size, 0, none⟩ = some (.slice none 0 0) := X3.out.cell 0
      have y0 : V3.cell? ⟨w2.heap.size, 0, none⟩ = some (.slice a1 M.length c1) := Y3.out.cell 0
      have t0 := X3.out.thaw 0
      have l2 := X2.out.lt
      have l3 := Y3.out.lt
      clear C2 hb2 X1 B1 hM ho2 b3 X2 B2 O2 hd hi
      by_cases hT1 : T1 = []
      · subst hT1
        have E : Hid (peR (T, 0) r = (M, 0)) := by unfold Hid; rw [PE.out, ← HM.out]; rfl
        have hq : ((i' : Int) == (T.length : Int)) = true := by
          have h1 := congrArg List.length HDI.out.1
          rw [List.length_drop] at h1
          have h2 := HDI.out.2
          simp only [List.length_nil] at h1
          rw [show i' = T.length by omega]; simp
        have hq2 : ((i' : Int) != (T.length : Int)) = false := by simpa using hq
        clear PE
        go_wp2
        refine retX2 (v := .int .i64 0) rfl rfl rfl rfl (put1_box X3.out _) ⟨?_, ?_⟩
        · rw [E.out]
          refine ⟨a1, c1, rfl, ?_⟩
          refine World.ownsRow.down (own_same O3.out fun x ex => ?_) (Nat.le_of_lt l1)
          rw [ob_slice] at ex
          have := (own_blkN O3.out x ex).1
          exact Below.heap_setCell V3 ⟨w.heap.size, 0, none⟩ _ x (by show x ≠ w.heap.size; omega)
        · exact B3.out.setCell (p := ⟨w.heap.size, 0, none⟩) (Nat.le_refl _) _
      · have E : Hid (peR (T, 0) r = ([], 3)) := by
          unfold Hid; rw [PE.out]; exact if_neg hT1
        have hne : ¬ i' = T.length := fun e => hT1 (by rw [← HDI.out.1, e, List.drop_length])
        have hq : ((i' : Int) == (T.length : Int)) = false := by
          simp only [beq_eq_false_iff_ne, ne_eq]; omega
        have hq2 : ((i' : Int) != (T.length : Int)) = true := by simp only [bne_iff_ne, ne_eq]; omega
        clear PE hT1 hne
        go_wp2
        refine retX2 (v := .int .i64 3) rfl rfl rfl rfl (put1_box X3.out _) ⟨PeA.no E.out, ?_⟩
        exact B3.out.setCell (p := ⟨w.heap.size, 0, none⟩) (Nat.le_refl _) _
  · have E : Hid (peR (T, k) r = ([], k)) := if_neg hk
    have hk2 : (k == 0) = false := by simpa using hk
    clear hk HTK2 HR HO
    go_wp2
    refine retX2 (v := .int .i64 k) rfl rfl rfl rfl (put1_box X1.out _) ⟨PeA.no E.out, ?_⟩
    exact B1.out.setCell (p := ⟨w.heap.size, 0, none⟩) (Nat.le_refl _) _

end Go.Proofs.YtbpfpjmjmkpjoaaGreatDoor
namespace Go.Proofs.YtbpfpjmjmkpjoaaGreatDoor
open Go Go.RowKit
attribute [local go_sem ↓] Go.wp_at_zero Go.wp_at_succ

set_option linter.unusedVariables false
set_option linter.unusedSimpArgs false
set_option linter.unusedVariables false
set_option linter.unusedSimpArgs false
def mixA {α : Type} (ys xs : List α) (k : Nat) : List α := ys.take k ++ xs.drop k
theorem mixA_zero {α : Type} (ys xs : List α) : mixA ys xs 0 = xs := by simp [mixA]
theorem mixA_len {α : Type} (ys xs : List α) (n k : Nat) (hx : xs.length = n) (hy : ys.length = n) (hk : k ≤ n) : (mixA ys xs k).length = n := by unfold mixA; simp; omega
theorem mixA_step {α : Type} (ys xs : List α) (n k : Nat) (d : α) (hx : xs.length = n) (hy : ys.length = n) (hk : k < n) : (mixA ys xs k).set k (ys.getD k d) = mixA ys xs (k + 1) := by
  unfold mixA
  have hl : (ys.take k).length = k := by simp; omega
  rw [List.set_append, if_neg (by omega), hl, Nat.sub_self, List.drop_eq_getElem_cons (show k < xs.length by omega), List.set_cons_zero, List.take_add_one, List.append_assoc, List.getD_eq_getElem?_getD, List.getElem?_eq_getElem (by omega)]
  rfl
theorem mixA_full {α : Type} (ys xs : List α) (n : Nat) (hx : xs.length = n) (hy : ys.length = n) : mixA ys xs n = ys := by
  unfold mixA; rw [List.take_of_length_le (by omega), List.drop_eq_nil_of_le (by omega)]; simp
set_option maxHeartbeats 1000000 in
theorem c_mtext2 (k0 : Nat) (w : World) (h1 : 1 ≤ k0) (h2 : k0 ≤ 17592186044416) :
    Calls Tryz.prog 83 #[.int .i64 k0] w fun e w' => e = .returned (.string (mtext k0)) ∧ Below w.heap.size w w' := by
  have hk0 : ¬ (k0 : Int) ≤ 0 := by omega
  go_enter Tryz.func83, Tryz.ntmps83
  go_wp2
  go_loopw [0, 3] (fun x o wr => ∃ (k f : Nat) (out : List UInt8), k ≤ f ∧ out.length + k ≤ k0 ∧ x = .int .i64 k ∧ o = .string ⟨out.toArray⟩ ∧ Hid (mt f k out = mt k0 k0 []) ∧ Below w.heap.size w wr) (fun x _ _ => (intOf x).toNat)
  case atStart => exact ⟨k0, k0, [], Nat.le_refl _, by simp, rfl, rfl, rfl, Below.refl _ _⟩
  case round =>
    obtain ⟨k, f, out, hkf, hol, rfl, rfl, HM, hb⟩ := hrel
    have hsz : (⟨out.toArray⟩ : ByteArray).size = out.length := by simp [ByteArray.size]
    by_cases hlt : 0 < k
    · have hcv := conv_dig k wr
      obtain ⟨f', hf', hst⟩ := mt_step (out := out) hlt hkf
      have HS : Hid (_ = _) := hst
      have hs1 : (⟨#[digC k]⟩ : ByteArray).size = 1 := rfl
      clear hst
      go_wp2
      go_roundw
      case rel => exact ⟨k / 10, f', digC k :: out, hf', by simp; omega, by go_num, str_val (cat_cons _ _), HS.out.symm.trans HM.out, hb.alloc (hb.size) _⟩
      case measure => simp [intOf]; omega
    · have e : k = 0 := by omega
      subst e
      have hs1 : (⟨#[109]⟩ : ByteArray).size = 1 := rfl
      go_wp2
      go_ret
      exact ⟨ret_str (by rw [cat_cons]; unfold mtext; rw [← HM.out, mt_end]), hb⟩

theorem c_mtextI2 (x : Int) (k : Nat) (w : World) (hx : x = k) (h1 : 1 ≤ k) (h2 : k ≤ 17592186044416) :
    Calls Tryz.prog 83 #[.int .i64 x] w fun e w' => e = .returned (.string (mtext k)) ∧ Below w.heap.size w w' := by
  subst hx; exact c_mtext2 k w h1 h2
def mE (k0 i : Nat) : EN := ⟨((k0 + i * 7 : Nat) : Int), ((k0 + i * 7 + 1 : Nat) : Int), ((k0 + i * 7 + 2 : Nat) : Int), ((k0 + i * 7 + 3 : Nat) : Int), ((k0 + i * 7 + 4 : Nat) : Int), ((k0 + i * 7 + 5 : Nat) : Int), mtext (k0 + i * 7 + 6)⟩
def marksE (k0 n : Nat) : List EN := (List.range n).map (mE k0)
theorem marksE_len (k0 n : Nat) : (marksE k0 n).length = n := by simp [marksE]
theorem marksE_get (k0 n k : Nat) (h : k < n) : (marksE k0 n).getD k zeroE = mE k0 k := by
  unfold marksE; rw [List.getD_eq_getElem?_getD, List.getElem?_map, List.getElem?_range h]; rfl
theorem marksE_val (k0 n k : Nat) (h : k < n) : (marksE k0 n).getD k zeroE = ⟨(k0 : Int) + (k : Int) * 7, (k0 : Int) + (k : Int) * 7 + 1, (k0 : Int) + (k : Int) * 7 + 2, (k0 : Int) + (k : Int) * 7 + 3, (k0 : Int) + (k : Int) * 7 + 4, (k0 : Int) + (k : Int) * 7 + 5, mtext (k0 + k * 7 + 6)⟩ := by rw [marksE_get _ _ _ h]; unfold mE; simp
set_option maxRecDepth 100000 in
set_option maxHeartbeats 8000000 in
theorem c_markE (base : Nat) (v : Value) (n k0 : Nat) (xs : List EN) (w : World) (hown : w.ownsRow base 86 7 v n (cellsE xs)) (h1 : 1 ≤ k0) (hn : n ≤ 2097152) (hk : k0 ≤ 8796093022208) :
    Calls Tryz.prog 42 #[v, .int .i64 k0] w fun e w' => e = .returned (.int .i64 (k0 + n * 7 : Nat)) ∧ w'.ownsRow base 86 7 v n (cellsE (marksE k0 n)) ∧ w.grownBy w' v.ownBlock := by
  have hxl : xs.length = n := by have := hown.1; rw [cellsE_len] at this; omega
  rcases own_form hown with ⟨rfl, rfl⟩ | ⟨g, cap, rfl, hg1, hg2⟩
  · go_enter Tryz.func42, Tryz.ntmps42
    go_wp2
    refine wp_loop_rounds 1 ?_
    rw [rounds_succ]
    go_wp2
    go_ret
    exact ⟨by simp, by simpa [marksE, cellsE] using World.ownsRow_nil w base 86 7, World.grownBy.refl _ _⟩
  · go_enter Tryz.func42, Tryz.ntmps42
    go_wp2
    go_loopw [1, 5] (fun m i wr => ∃ k : Nat, k ≤ n ∧ i = .int .i64 k ∧ m = .int .i64 ((k0 + k * 7 : Nat) : Int) ∧ wr.ownsRow base 86 7 (.slice (some ⟨g, 0, none⟩) n cap) n (cellsE (mixA (marksE k0 n) xs k)) ∧ w.grownBy wr (some g)) (fun _ i _ => n - (intOf i).toNat)
    case atStart => exact ⟨0, by omega, rfl, by simp, by rw [mixA_zero]; exact hown, World.grownBy.refl _ _⟩
    case round =>
      obtain ⟨k, hk, rfl, rfl, hown, hgr⟩ := hrel
      by_cases hlt : k < n
      · have hml := mixA_len (marksE k0 n) xs n k hxl (marksE_len _ _) hk
        obtain ⟨L, hL⟩ : ∃ L, L = cellsE (mixA (marksE k0 n) xs k) := ⟨_, rfl⟩
        have hLl : L.length = n * 7 := by rw [hL, cellsE_len, hml]
        have HS : Hid (setE L (k * 7) ⟨(k0 : Int) + (k : Int) * 7, (k0 : Int) + (k : Int) * 7 + 1, (k0 : Int) + (k : Int) * 7 + 2, (k0 : Int) + (k : Int) * 7 + 3, (k0 : Int) + (k : Int) * 7 + 4, (k0 : Int) + (k : Int) * 7 + 5, mtext (k0 + k * 7 + 6)⟩ = cellsE (mixA (marksE k0 n) xs (k + 1))) := by
          unfold Hid
          have hset := cellsE_set (mixA (marksE k0 n) xs k) k ((marksE k0 n).getD k zeroE) (by omega)
          rw [mixA_step _ _ n k zeroE hxl (marksE_len _ _) hlt, marksE_val _ _ _ hlt, ← hL] at hset
          exact hset
        rw [← hL] at hown
        clear hL
        obtain ⟨u0, q0⟩ : ∃ u, L[k * 7]? = some u := ⟨_, List.getElem?_eq_getElem (by omega)⟩
        have f0 := hown.cellAt (k * 7) (by omega)
        rw [q0] at f0
        have z0 := hown.frozenAt (k * 7)
        obtain ⟨u1, q1⟩ : ∃ u, L[k * 7 + 1]? = some u := ⟨_, List.getElem?_eq_getElem (by omega)⟩
        have f1 := hown.cellAt (k * 7 + 1) (by omega)
        rw [q1] at f1
        have z1 := hown.frozenAt (k * 7 + 1)
        obtain ⟨u2, q2⟩ : ∃ u, L[k * 7 + 2]? = some u := ⟨_, List.getElem?_eq_getElem (by omega)⟩
        have f2 := hown.cellAt (k * 7 + 2) (by omega)
        rw [q2] at f2
        have z2 := hown.frozenAt (k * 7 + 2)
        obtain ⟨u3, q3⟩ : ∃ u, L[k * 7 + 3]? = some u := ⟨_, List.getElem?_eq_getElem (by omega)⟩
        have f3 := hown.cellAt (k * 7 + 3) (by omega)
        rw [q3] at f3
        have z3 := hown.frozenAt (k * 7 + 3)
        obtain ⟨u4, q4⟩ : ∃ u, L[k * 7 + 4]? = some u := ⟨_, List.getElem?_eq_getElem (by omega)⟩
        have f4 := hown.cellAt (k * 7 + 4) (by omega)
        rw [q4] at f4
        have z4 := hown.frozenAt (k * 7 + 4)
        obtain ⟨u5, q5⟩ : ∃ u, L[k * 7 + 5]? = some u := ⟨_, List.getElem?_eq_getElem (by omega)⟩
        have f5 := hown.cellAt (k * 7 + 5) (by omega)
        rw [q5] at f5
        have z5 := hown.frozenAt (k * 7 + 5)
        obtain ⟨s0, t0⟩ := hown.stored (k * 7) (.int .i64 ((k0 : Int) + (k : Int) * 7))
        obtain ⟨s1, t1⟩ := s0.stored (k * 7 + 1) (.int .i64 ((k0 : Int) + (k : Int) * 7 + 1))
        obtain ⟨s2, t2⟩ := s1.stored (k * 7 + 2) (.int .i64 ((k0 : Int) + (k : Int) * 7 + 2))
        obtain ⟨s3, t3⟩ := s2.stored (k * 7 + 3) (.int .i64 ((k0 : Int) + (k : Int) * 7 + 3))
        obtain ⟨s4, t4⟩ := s3.stored (k * 7 + 4) (.int .i64 ((k0 : Int) + (k : Int) * 7 + 4))
        obtain ⟨s5, t5⟩ := s4.stored (k * 7 + 5) (.int .i64 ((k0 : Int) + (k : Int) * 7 + 5))
        have HB : Hid (World.ownsRow _ base 86 7 (.slice (some ⟨g, 0, none⟩) n cap) n _) := s5
        have HGB : Hid (w.grownBy _ (some g)) := ((((((hgr.trans t0).trans t1).trans t2).trans t3).trans t4).trans t5)
        clear s0 t0 q0 s1 t1 q1 s2 t2 q2 s3 t3 q3 s4 t4 q4 s5 t5 q5 hown hgr
        go_wp2_with fail
        refine (c_mtextI2 _ (k0 + k * 7 + 6) _ (by omega) (by omega) (by omega)).mono ?_
        rintro e w3 ⟨rfl, hb3⟩
        have hown3 := own_below HB.out hb3
        have HG3 : Hid (w.grownBy w3 (some g)) := HGB.out.trans (grown_of_below hb3 (some g))
        clear f0 z0 f1 z1 f2 z2 f3 z3 f4 z4 f5 z5 HB HGB hb3
        have hl3 := hown3.1
        obtain ⟨u9, q9⟩ : ∃ u, w3.cell? ⟨g, k * 7 + 6, none⟩ = some u := ⟨_, (hown3.cellAt (k * 7 + 6) (by omega)).trans (List.getElem?_eq_getElem (by omega))⟩
        have z9 := hown3.frozenAt (k * 7 + 6)
        obtain ⟨s9, t9⟩ := hown3.stored (k * 7 + 6) (.string (mtext (k0 + k * 7 + 6)))
        have HC : Hid (World.ownsRow (w3.setCell ⟨g, k * 7 + 6, none⟩ (.string (mtext (k0 + k * 7 + 6)))) base 86 7 (.slice (some ⟨g, 0, none⟩) n cap) n (cellsE (mixA (marksE k0 n) xs (k + 1)))) := by
          unfold Hid
          rw [← HS.out]
          exact s9
        have HGC : Hid (w.grownBy _ (some g)) := HG3.out.trans t9
        clear s9 t9 hown3 HG3 hl3
        go_wp2
        go_roundw
        case rel => exact ⟨k + 1, by omega, by go_num, by go_num, HC.out, HGC.out⟩
        case measure => simp [intOf]; omega
      · have e : k = n := by omega
        subst e
        rw [mixA_full _ _ k hxl (marksE_len _ _)] at hown
        go_wp2
        go_ret
        exact ⟨rfl, hown, hgr⟩
set_option maxRecDepth 100000 in
set_option maxHeartbeats 8000000 in
theorem c_heldE (a : Option Addr) (n cap k0 : Nat) (w : World) (hr : RdE w a n (marksE k0 n)) (h1 : 1 ≤ k0) (hn : n ≤ 2097152) (hk : k0 ≤ 8796093022208) :
    Calls Tryz.prog 43 #[.slice a n cap, .int .i64 k0] w fun e w' => e = .returned (.int .i64 (k0 + n * 7 : Nat)) ∧ Below w.heap.size w w' := by
  obtain ⟨hl, hcs⟩ := hr
  go_enter Tryz.func43, Tryz.ntmps43
  go_wp2
  go_loopw [1, 5] (fun m i wr => ∃ k : Nat, k ≤ n ∧ i = .int .i64 k ∧ m = .int .i64 ((k0 + k * 7 : Nat) : Int) ∧ Below w.heap.size w wr) (fun _ i _ => n - (intOf i).toNat)
  case atStart => exact ⟨0, by omega, rfl, by simp, Below.refl _ _⟩
  case round =>
    obtain ⟨k, hk, rfl, rfl, hb⟩ := hrel
    by_cases hlt : k < n
    · obtain ⟨b, off, rfl, hbl, hc⟩ := hcs (by omega)
      obtain ⟨d0, d1, d2, d3, d4, d5, d6⟩ := RdE.at hc hlt (marksE_val k0 n k hlt).symm
      dsimp only at d0 d1 d2 d3 d4 d5 d6
      have e0 : wr.cell? ⟨b, off + k * 7, none⟩ = some (.int .i64 ((k0 : Int) + (k : Int) * 7)) := by rw [hb.cell (p := ⟨b, off + k * 7, none⟩) hbl, d0]
      have e1 : wr.cell? ⟨b, off + k * 7 + 1, none⟩ = some (.int .i64 ((k0 : Int) + (k : Int) * 7 + 1)) := by rw [hb.cell (p := ⟨b, off + k * 7 + 1, none⟩) hbl, d1]
      have e2 : wr.cell? ⟨b, off + k * 7 + 2, none⟩ = some (.int .i64 ((k0 : Int) + (k : Int) * 7 + 2)) := by rw [hb.cell (p := ⟨b, off + k * 7 + 2, none⟩) hbl, d2]
      have e3 : wr.cell? ⟨b, off + k * 7 + 3, none⟩ = some (.int .i64 ((k0 : Int) + (k : Int) * 7 + 3)) := by rw [hb.cell (p := ⟨b, off + k * 7 + 3, none⟩) hbl, d3]
      have e4 : wr.cell? ⟨b, off + k * 7 + 4, none⟩ = some (.int .i64 ((k0 : Int) + (k : Int) * 7 + 4)) := by rw [hb.cell (p := ⟨b, off + k * 7 + 4, none⟩) hbl, d4]
      have e5 : wr.cell? ⟨b, off + k * 7 + 5, none⟩ = some (.int .i64 ((k0 : Int) + (k : Int) * 7 + 5)) := by rw [hb.cell (p := ⟨b, off + k * 7 + 5, none⟩) hbl, d5]
      have e6 : wr.cell? ⟨b, off + k * 7 + 6, none⟩ = some (.string (mtext (k0 + k * 7 + 6))) := by rw [hb.cell (p := ⟨b, off + k * 7 + 6, none⟩) hbl, d6]
      have g1 : (0 : Int) ≤ (k : Int) := by omega
      have g2 : (k : Int) < (n : Int) := by omega
      clear hc hcs d0 d1 d2 d3 d4 d5 d6
      go_wp2_with fail
      go_region_held3 (fun x => x.cell? ⟨b, off + k * 7 + 6, none⟩ = some (.string (mtext (k0 + k * 7 + 6)))) (first | go_keep | (rw [hb3.cell (p := ⟨b, off + k * 7 + 6, none⟩) (World.block_lt_of_cell? _ ⟨b, off + k * 7 + 6, none⟩ (by assumption))]; assumption))
        (first | (go_at_call 83; refine (c_mtextI2 _ (k0 + k * 7 + 6) _ (by omega) (by omega) (by omega)).mono ?_; rintro e w3 ⟨rfl, hb3⟩))
      have hb' : Below w.heap.size w w3 := hb.drew.trans (hb3.mono hb.size)
      clear hb3 e0 e1 e2 e3 e4 e5 e6 hb
      go_wp2
      go_roundw
      case rel => exact ⟨k + 1, by omega, by go_num, by go_num, hb'⟩
      case measure => simp [intOf]; omega
    · have e : k = n := by omega
      subst e
      go_wp2
      go_ret
      exact ⟨rfl, hb⟩
set_option maxRecDepth 100000 in
set_option maxHeartbeats 4000000 in
theorem c_eqXP (a a' : Option Addr) (n c c' : Nat) (L : List EN) (w : World) (hr : RdE w a n L) (hr' : RdE w a' n L) (hn : n ≤ 1048576) :
    Calls Tryz.prog 11 #[.agg #[.slice a n c], .agg #[.slice a' n c']] w fun e w' => e = .returned (.bool true) ∧ Below w.heap.size w w' := by
  have C : Hid (∀ W, Below w.heap.size w W → Calls Tryz.prog 41 #[.slice a n c, .slice a' n c'] W fun e w' => e = .returned (.bool true) ∧ Below W.heap.size W w') := fun W hW => c_eqE a a' n c c' L W (hr.below hW) (hr'.below hW) hn
  clear hr hr'
  go_enter Tryz.func11, Tryz.ntmps11
  go_wp2_with fail
  refine (C.out _ (((Below.refl _ _).alloc (Nat.le_refl _) _).alloc (by simp) _)).mono ?_
  rintro e w1 ⟨rfl, hb⟩
  have HB : Hid (Below w.heap.size w w1) := (((Below.refl w.heap.size w).alloc (Nat.le_refl _) _).alloc (by simp) _).trans (hb.mono (by simp; omega))
  clear hb C
  go_wp2
  go_ret
  exact ⟨rfl, HB.out⟩
set_option maxRecDepth 100000 in
set_option maxHeartbeats 4000000 in
theorem c_mkX (base : Nat) (a : Option Addr) (n c k0 : Nat) (xs : List EN) (w : World) (hown : w.ownsRow base 86 7 (.slice a n c) n (cellsE xs)) (h1 : 1 ≤ k0) (hn : n ≤ 2097152) (hk : k0 ≤ 8796093022208) :
    Calls Tryz.prog 12 #[.agg #[.slice a n c], .int .i64 k0] w fun e w' => e = .returned (.int .i64 (k0 + n * 7 : Nat)) ∧ w'.ownsRow base 86 7 (.slice a n c) n (cellsE (marksE k0 n)) ∧ w.grownBy w' (Value.slice a n c).ownBlock := by
  obtain ⟨V, hV⟩ : ∃ Q, w.alloc (.cells #[.slice a n c] 24) = Q := ⟨_, rfl⟩
  have b0 : Below w.heap.size w V := by rw [← hV]; exact (Below.refl _ _).alloc (Nat.le_refl _) _
  have C := c_markE base (.slice a n c) n k0 xs V (own_below hown b0) h1 hn hk
  have X : Hid (Box V w.heap.size 24 #[.slice a n c]) := by unfold Hid; rw [← hV]; exact Box.new _ _ _
  have x0 : V.cell? ⟨w.heap.size, 0, none⟩ = some (.slice a n c) := X.out.cell 0
  go_enter Tryz.func12, Tryz.ntmps12
  go_wp2_with fail
  refine C.mono ?_
  rintro e w1 ⟨rfl, ho, hg⟩
  have HB : Hid (w.grownBy w1 (Value.slice a n c).ownBlock) := (grown_of_below b0 _).trans hg
  clear hg C x0 X
  go_wp2
  go_ret
  exact ⟨rfl, ho, HB.out⟩
set_option maxRecDepth 100000 in
set_option maxHeartbeats 4000000 in
theorem c_hdX (a : Option Addr) (n c k0 : Nat) (w : World) (hr : RdE w a n (marksE k0 n)) (h1 : 1 ≤ k0) (hn : n ≤ 2097152) (hk : k0 ≤ 8796093022208) :
    Calls Tryz.prog 13 #[.agg #[.slice a n c], .int .i64 k0] w fun e w' => e = .returned (.int .i64 (k0 + n * 7 : Nat)) ∧ Below w.heap.size w w' := by
  obtain ⟨V, hV⟩ : ∃ Q, w.alloc (.cells #[.slice a n c] 24) = Q := ⟨_, rfl⟩
  have b0 : Below w.heap.size w V := by rw [← hV]; exact (Below.refl _ _).alloc (Nat.le_refl _) _
  have C := c_heldE a n c k0 V (hr.below b0) h1 hn hk
  have X : Hid (Box V w.heap.size 24 #[.slice a n c]) := by unfold Hid; rw [← hV]; exact Box.new _ _ _
  have x0 : V.cell? ⟨w.heap.size, 0, none⟩ = some (.slice a n c) := X.out.cell 0
  go_enter Tryz.func13, Tryz.ntmps13
  go_wp2_with fail
  refine C.mono ?_
  rintro e w1 ⟨rfl, hb⟩
  have HB : Hid (Below w.heap.size w w1) := b0.trans (hb.mono b0.size)
  have hz : (((k0 + n * 7 : Nat) : Int) < 0) = False := by simp; omega
  clear hb C x0 X
  go_wp2
  go_ret
  exact ⟨rfl, HB.out⟩

end Go.Proofs.YtbpfpjmjmkpjoaaGreatDoor
namespace Go.Proofs.YtbpfpjmjmkpjoaaGreatDoor
open Go Go.RowKit
attribute [local go_sem ↓] Go.wp_at_zero Go.wp_at_succ

set_option linter.unusedVariables false
set_option linter.unusedSimpArgs false
theorem pe_len (lx : List ByteArray × Int) (r : Res) (hr : Parses (.ch .or) 0 lx.1 0 r) : (peR lx r).1.length ≤ 40 := by
  have hf := goes hr (by omega) rfl
  unfold peR
  split
  · cases r with
    | err c => exact Nat.zero_le _
    | ok p T1 n1 =>
      have hc : p.cnt ≤ 40 := by have g1 := hf.2.1; have g2 := hf.2.2.1; simp only [Lv.cnt0] at g1; omega
      by_cases hd : 12 < p.dep
      · rw [show finR (.ok p T1 n1) = .err 16 from if_pos hd]; exact Nat.zero_le _
      · rw [show finR (.ok p T1 n1) = .ok p T1 n1 from if_neg hd]
        by_cases hT : T1 = []
        · simp only [hT, if_true, nodes_len]; exact hc
        · simp only [hT, if_false]; exact Nat.zero_le _
  · exact Nat.zero_le _
theorem box_grown {w w' : World} {g t : Nat} {c : Array Value} {r : Option Nat} (h : Box w g t c) (hg : w.grownBy w' r) (hne : r ≠ some g) : Box w' g t c := (hg.block g h.lt (Ne.symm hne)).trans h
set_option maxRecDepth 100000 in
set_option maxHeartbeats 8000000 in
theorem law_FnExactParseExpr (t : ByteArray) (w : World) (hs : t.size ≤ maxLen) (hT : Tabs w) (hE : TabE w) : Calls Tryz.prog 3 #[.string t] w fun e w' => e = .returned (.bool true) ∧ Below w.heap.size w w' := by
  by_cases hbig : (1048576 : Int) < (t.size : Int)
  · go_enter Tryz.func3, Tryz.ntmps3
    go_wp2
    go_ret
    exact ⟨rfl, Below.refl _ _⟩
  obtain ⟨r, hr⟩ := has_expr (lexR t).1
  have hlen := pe_len (lexR t) r hr
  have CS := s_specPE t w hs r hr
  have CI : ∀ W, Below w.heap.size w W → Calls Tryz.prog 10 #[.string t] W fun e w' => PeA W.heap.size (peR (lexR t) r) e w' ∧ Below W.heap.size W w' := fun W hW => c_implPE t W hs (hT.below hW) (hE.below hW) r hr
  obtain ⟨Q, hQ⟩ : ∃ Q, peR (lexR t) r = Q := ⟨_, rfl⟩
  rw [hQ] at CS CI hlen
  clear hQ hr hT hE
  obtain ⟨L, xe⟩ := Q
  obtain ⟨n, hn⟩ : ∃ n, L.length = n := ⟨_, rfl⟩
  have hlen2 : n ≤ 40 := by rw [← hn]; exact hlen
  have CS' : Hid (Calls Tryz.prog 9 #[.string t] w fun e w' => (∃ a c, e = .returned (.tuple #[.agg #[.slice a n c], .int .i64 xe]) ∧ w'.ownsRow w.heap.size 86 7 (.slice a n c) n (cellsE L)) ∧ Below w.heap.size w w') := by unfold Hid; rw [← hn]; exact CS
  have CI' : Hid (∀ W, Below w.heap.size w W → Calls Tryz.prog 10 #[.string t] W fun e w' => (∃ a c, e = .returned (.tuple #[.agg #[.slice a n c], .int .i64 xe]) ∧ w'.ownsRow W.heap.size 86 7 (.slice a n c) n (cellsE L)) ∧ Below W.heap.size W w') := fun W hW => by rw [← hn]; exact CI W hW
  have CQ : Hid (∀ (W : World) (a1 : Option Addr) (c1 : Nat) (a2 : Option Addr) (c2 : Nat), RdE W a1 n L → RdE W a2 n L → Calls Tryz.prog 11 #[.agg #[.slice a1 n c1], .agg #[.slice a2 n c2]] W fun e w' => e = .returned (.bool true) ∧ Below W.heap.size W w') := fun W a1 c1 a2 c2 h1 h2 => c_eqXP a1 a2 n c1 c2 L W h1 h2 (by omega)
  obtain ⟨m, hm'⟩ : ∃ m : Int, ((1 + n * 7 : Nat) : Int) = m := ⟨_, rfl⟩
  have hm0 : ¬ m < 0 := by omega
  have CM : Hid (∀ (B : Nat) (W : World) (a : Option Addr) (c : Nat), W.ownsRow B 86 7 (.slice a n c) n (cellsE L) → Calls Tryz.prog 12 #[.agg #[.slice a n c], .int .i64 1] W fun e w' => e = .returned (.int .i64 m) ∧ w'.ownsRow B 86 7 (.slice a n c) n (cellsE (marksE 1 n)) ∧ W.grownBy w' (ob a)) := fun B W a c ho => by
    have := c_mkX B a n c 1 L W ho (by omega) (by omega) (by omega)
    rw [hm', ob_slice] at this
    exact this
  have CH : Hid (∀ (W : World) (a : Option Addr) (c : Nat), RdE W a n (marksE 1 n) → Calls Tryz.prog 13 #[.agg #[.slice a n c], .int .i64 1] W fun e w' => e = .returned (.int .i64 m) ∧ Below W.heap.size W w') := fun W a c ho => by
    have := c_hdX a n c 1 W ho (by omega) (by omega) (by omega)
    rw [hm'] at this
    exact this
  have nn : (xe != xe) = false := by simp
  have mm : (m != m) = false := by simp
  clear CS CI hn hm' hlen hlen2
  go_enter Tryz.func3, Tryz.ntmps3
  go_wp2_with fail
  refine CS'.out.mono ?_
  rintro e w1 ⟨⟨aw, cw, rfl, ow⟩, hb⟩
  obtain ⟨V1, hV1⟩ : ∃ Q, w1.alloc (.cells #[.slice aw n cw] 24) = Q := ⟨_, rfl⟩
  have b1 : Below w1.heap.size w1 V1 := by rw [← hV1]; exact (Below.refl _ _).alloc (Nat.le_refl _) _
  have z1 : V1.heap.size = w1.heap.size + 1 := by rw [← hV1]; simp
  have XW1 : Hid (Box V1 w1.heap.size 24 #[.slice aw n cw]) := by unfold Hid; rw [← hV1]; exact Box.new _ _ _
  have OW1 : Hid (V1.ownsRow w.heap.size 86 7 (.slice aw n cw) n (cellsE L)) := own_below ow b1
  have B1 : Hid (Below w.heap.size w V1) := hb.trans (b1.mono hb.size)
  have GW : Hid (∀ g, ob aw = some g → w.heap.size ≤ g ∧ g < w1.heap.size) := own_blkN ow
  have s1 : w.heap.size ≤ w1.heap.size := hb.size
  clear ow hb CS' b1
  have C1 := CI'.out V1 B1.out
  go_wp2_with fail
  refine C1.mono ?_
  rintro e w2 ⟨⟨ag, cg, rfl, og⟩, hb⟩
  obtain ⟨V2, hV2⟩ : ∃ Q, w2.alloc (.cells #[.slice ag n cg] 24) = Q := ⟨_, rfl⟩
  have b2 : Below w2.heap.size w2 V2 := by rw [← hV2]; exact (Below.refl _ _).alloc (Nat.le_refl _) _
  have s2 : V1.heap.size ≤ w2.heap.size := hb.size
  have bb : Below V1.heap.size V1 V2 := hb.trans (b2.mono hb.size)
  have XW2 : Hid (Box V2 w1.heap.size 24 #[.slice aw n cw]) := XW1.out.belowS bb
  have XG2 : Hid (Box V2 w2.heap.size 24 #[.slice ag n cg]) := by unfold Hid; rw [← hV2]; exact Box.new _ _ _
  have OG2 : Hid (V2.ownsRow V1.heap.size 86 7 (.slice ag n cg) n (cellsE L)) := own_below og b2
  have GG : Hid (∀ g, ob ag = some g → V1.heap.size ≤ g ∧ g < w2.heap.size) := own_blkN og
  have B2 : Hid (Below w.heap.size w V2) := B1.out.trans (bb.mono B1.out.size)
  have OW2 : Hid (V2.ownsRow w.heap.size 86 7 (.slice aw n cw) n (cellsE L)) := own_below OW1.out bb
  clear hb B1 OW1 XW1 bb b2 og C1 hV1
  have C2 := CQ.out V2 ag cg aw cw (RdE.own OG2.out) (RdE.own OW2.out)
  have xw := XW2.out.cell 0
  have xg := XG2.out.cell 0
  go_wp2_with fail
  refine C2.mono ?_
  rintro e w3 ⟨rfl, hb⟩
  clear xw xg
  have B3 : Hid (Below w.heap.size w w3) := B2.out.trans (hb.mono B2.out.size)
  have OW3 : Hid (w3.ownsRow w.heap.size 86 7 (.slice aw n cw) n (cellsE L)) := own_below OW2.out hb
  have OG3 : Hid (w3.ownsRow V1.heap.size 86 7 (.slice ag n cg) n (cellsE L)) := own_below OG2.out hb
  have XW3 : Hid (Box w3 w1.heap.size 24 #[.slice aw n cw]) := XW2.out.belowS hb
  have XG3 : Hid (Box w3 w2.heap.size 24 #[.slice ag n cg]) := XG2.out.belowS hb
  clear hb B2 OW2 OG2 XW2 XG2 C2 hV2
  have C3 := CM.out V1.heap.size w3 ag cg OG3.out
  have xg := XG3.out.cell 0
  go_wp2_with fail
  refine C3.mono ?_
  rintro e w4 ⟨rfl, og, hg⟩
  clear xg
  have OG4 : Hid (w4.ownsRow V1.heap.size 86 7 (.slice ag n cg) n (cellsE (marksE 1 n))) := og
  have B4 : Hid (Below w.heap.size w w4) := below_grown B3.out hg (fun g e => by have := GG.out g e; omega)
  have OW4 : Hid (w4.ownsRow w.heap.size 86 7 (.slice aw n cw) n (cellsE L)) := own_grown OW3.out hg (fun g e q => by have := GW.out g e; have := GG.out g q; omega)
  have XW4 : Hid (Box w4 w1.heap.size 24 #[.slice aw n cw]) := box_grown XW3.out hg (fun q => by have := GG.out _ q; omega)
  have XG4 : Hid (Box w4 w2.heap.size 24 #[.slice ag n cg]) := box_grown XG3.out hg (fun q => by have := GG.out _ q; omega)
  clear hg og B3 OW3 OG3 XW3 XG3 C3
  have C4 := CH.out w4 ag cg (RdE.own OG4.out)
  have xg := XG4.out.cell 0
  go_wp2_with fail
  refine C4.mono ?_
  rintro e w5 ⟨rfl, hb⟩
  clear xg
  have B5 : Hid (Below w.heap.size w w5) := B4.out.trans (hb.mono B4.out.size)
  have OW5 : Hid (w5.ownsRow w.heap.size 86 7 (.slice aw n cw) n (cellsE L)) := own_below OW4.out hb
  have OG5 : Hid (w5.ownsRow V1.heap.size 86 7 (.slice ag n cg) n (cellsE (marksE 1 n))) := own_below OG4.out hb
  have XW5 : Hid (Box w5 w1.heap.size 24 #[.slice aw n cw]) := XW4.out.belowS hb
  have XG5 : Hid (Box w5 w2.heap.size 24 #[.slice ag n cg]) := XG4.out.belowS hb
  clear hb B4 OW4 OG4 XW4 XG4 C4
  have C5 := CI'.out w5 B5.out
  go_wp2_with fail
  refine C5.mono ?_
  rintro e w6 ⟨⟨ah, ch, rfl, oh⟩, hb⟩
  obtain ⟨V6, hV6⟩ : ∃ Q, w6.alloc (.cells #[.slice ah n ch] 24) = Q := ⟨_, rfl⟩
  have b6 : Below w6.heap.size w6 V6 := by rw [← hV6]; exact (Below.refl _ _).alloc (Nat.le_refl _) _
  have bb : Below w5.heap.size w5 V6 := hb.trans (b6.mono hb.size)
  have B6 : Hid (Below w.heap.size w V6) := B5.out.trans (bb.mono B5.out.size)
  have OW6 : Hid (V6.ownsRow w.heap.size 86 7 (.slice aw n cw) n (cellsE L)) := own_below OW5.out bb
  have OG6 : Hid (V6.ownsRow V1.heap.size 86 7 (.slice ag n cg) n (cellsE (marksE 1 n))) := own_below OG5.out bb
  have XW6 : Hid (Box V6 w1.heap.size 24 #[.slice aw n cw]) := XW5.out.belowS bb
  have XG6 : Hid (Box V6 w2.heap.size 24 #[.slice ag n cg]) := XG5.out.belowS bb
  have XH6 : Hid (Box V6 w6.heap.size 24 #[.slice ah n ch]) := by unfold Hid; rw [← hV6]; exact Box.new _ _ _
  have C6 := CQ.out V6 ah ch aw cw (RdE.own (own_below oh b6)) (RdE.own OW6.out)
  clear hb B5 OW5 OG5 XW5 XG5 C5 bb b6 oh
  have xw := XW6.out.cell 0
  have xh := XH6.out.cell 0
  go_wp2_with fail
  refine C6.mono ?_
  rintro e w7 ⟨rfl, hb⟩
  clear xw xh
  have B7 : Hid (Below w.heap.size w w7) := B6.out.trans (hb.mono B6.out.size)
  have OG7 : Hid (w7.ownsRow V1.heap.size 86 7 (.slice ag n cg) n (cellsE (marksE 1 n))) := own_below OG6.out hb
  have XG7 : Hid (Box w7 w2.heap.size 24 #[.slice ag n cg]) := XG6.out.belowS hb
  clear hb B6 OG6 OW6 XW6 XG6 XH6 C6 hV6
  have C7 := CH.out w7 ag cg (RdE.own OG7.out)
  have xg := XG7.out.cell 0
  go_wp2_with fail
  refine C7.mono ?_
  rintro e w8 ⟨rfl, hb⟩
  clear xg
  have B8 : Hid (Below w.heap.size w w8) := B7.out.trans (hb.mono B7.out.size)
  clear hb C7
  go_wp2
  go_ret
  exact ⟨rfl, B8.out⟩

end Go.Proofs.YtbpfpjmjmkpjoaaGreatDoor
