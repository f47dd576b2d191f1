/-
  The law of CompileExpr.
-/
import Derived.Test.YtepeaabacfjheaaKj
import Derived.Deep.RegionHeld3
import Derived.Deep.DrawnRows
namespace Go.Proofs.Ytepeaabacfjheaa
open Go Go.RowKit
attribute [local go_sem ↓] Go.wp_at_zero Go.wp_at_succ

set_option linter.unusedVariables false
set_option linter.unusedSimpArgs false
set_option maxRecDepth 100000 in
set_option maxHeartbeats 4000000 in
theorem c_toXo (a : Option Addr) (n c : Nat) (L : List EN) (w : World) (hr : RdE w a n L) (hn : n ≤ 1048576) :
    Calls Try.prog 6 #[.agg #[.slice a n c]] w fun e w' => (∃ (a' : Option Addr) (c' : Nat), e = .returned (.agg #[.slice a' n c']) ∧ w'.ownsRow w.heap.size 62 7 (.slice a' n c') n (cellsE L)) ∧ Below w.heap.size w w' := by
  obtain ⟨V, hV⟩ : ∃ V, ((w.alloc (.cells #[.slice a n c] 24)).alloc (.cells #[.slice none 0 0] 31)).alloc (.cells #[.slice none 0 0] 31) = V := ⟨_, rfl⟩
  have B0 : Below w.heap.size w V := by rw [← hV]; exact (((Below.refl _ _).alloc (Nat.le_refl _) _).alloc (by simp) _).alloc (by simp; omega) _
  have X0 : Box V (w.heap.size + 1) 31 #[.slice none 0 0] := by rw [← hV]; exact (Box.new2 _ _ _ _).alloc _
  have Y0 : Box V (w.heap.size + 1 + 1) 31 #[.slice none 0 0] := by rw [← hV]; have := Box.new2 (w.alloc (.cells #[.slice a n c] 24)) (.cells #[.slice none 0 0] 31) #[.slice none 0 0] 31; simpa using this
  have A0 : Box V w.heap.size 24 #[.slice a n c] := by rw [← hV]; exact ((Box.new _ _ _).alloc _).alloc _
  have a0 : V.cell? ⟨w.heap.size, 0, none⟩ = some (.slice a n c) := A0.cell 0
  clear A0
  have C := c_toE a n c L V (hr.below B0) hn
  clear hr
  go_enter Try.func6, Try.ntmps6
  go_wp2_with fail
  refine C.mono ?_
  rintro e w1 ⟨rfl, ho, hb⟩
  have B1 : Hid (Below w.heap.size w w1) := B0.trans (hb.mono B0.size)
  have X1 : Box w1 (w.heap.size + 1) 31 #[.slice none 0 0] := X0.belowS hb
  have Y1 : Box w1 (w.heap.size + 1 + 1) 31 #[.slice none 0 0] := Y0.belowS hb
  have sV : w.heap.size + 1 + 1 < V.heap.size := Y0.lt
  have s1 : V.heap.size ≤ w1.heap.size := hb.size
  have x0 : w1.cell? ⟨w.heap.size + 1, 0, none⟩ = some (.slice none 0 0) := X1.cell 0
  have y0 : w1.cell? ⟨w.heap.size + 1 + 1, 0, none⟩ = some (.slice none 0 0) := Y1.cell 0
  have tx := X1.thaw 0
  have ty := Y1.thaw 0
  have X2 : Hid (∀ v u, Box ((w1.setCell ⟨w.heap.size + 1 + 1, 0, none⟩ v).setCell ⟨w.heap.size + 1, 0, none⟩ u) (w.heap.size + 1) 31 #[u]) := fun v u => by
    have := ((X1.setOther ⟨w.heap.size + 1 + 1, 0, none⟩ v (by simp)).set 0 u)
    simpa using this
  have B0s : w.heap.size ≤ V.heap.size := B0.size
  have HO : Hid (w1.ownsRow V.heap.size 62 7 (.slice (some ⟨V.heap.size, 0, none⟩) n n) n (cellsE L)) := ho
  clear hb hV B0 X0 Y0 C X1 Y1 ho a0
  go_wp2
  refine ret1 Try.results6 rfl rfl (X2.out _ _) ⟨⟨_, _, rfl, ?_⟩, (B1.out.setCell (by simp; omega) _).setCell (by simp) _⟩
  refine (own_same HO.out fun g e => ?_).down B0s
  have e' : V.heap.size = g := Option.some.inj e
  rw [Below.heap_setCell _ _ _ _ (by simp; omega), Below.heap_setCell _ _ _ _ (by simp; omega)]
theorem below_grown {w W W' : World} {r : Option Nat} (h : Below w.heap.size w W) (hg : W.grownBy W' r) (hr : ∀ g, r = some g → w.heap.size ≤ g) : Below w.heap.size w W' := ⟨hg.os.trans h.os, hg.tape.trans h.tape, hg.output.trans h.output, Nat.le_trans h.size hg.size, fun j hj => (hg.block j (Nat.lt_of_lt_of_le hj h.size) (fun e => by have := hr j e.symm; omega)).trans (h.block j hj)⟩
theorem own_blk {w : World} {B t s n cap : Nat} {a : Option Addr} {xs : List Value} (h : w.ownsRow B t s (.slice a n cap) n xs) : ∀ g, ob a = some g → B ≤ g ∧ g < w.heap.size := fun g hg => by
  rcases own_form h with ⟨e, _⟩ | ⟨g', c', hv, hb, hl⟩
  · simp only [Value.slice.injEq] at e; rw [e.1] at hg; cases hg
  · simp only [Value.slice.injEq] at hv; rw [hv.1] at hg; cases hg; exact ⟨hb, hl⟩
theorem own_grown {w w' : World} {B t s n cap : Nat} {a : Option Addr} {r : Option Nat} {xs : List Value} (h : w.ownsRow B t s (.slice a n cap) n xs) (hg : w.grownBy w' r) (hne : ∀ g, ob a = some g → r ≠ some g) : w'.ownsRow B t s (.slice a n cap) n xs := by
  refine h.kept hg ?_
  rw [ob_slice]
  cases e : ob a with
  | none => exact .inl rfl
  | some g => exact .inr (fun q => hne g e q.symm)
theorem ce_len (L : List EN) (n : Nat) : (ceL L n).length ≤ 1000 := by
  unfold ceL
  split
  · simp
  · rename_i p hp
    obtain ⟨h1, _, h3⟩ := top_parts hp
    have := code_len p 0
    omega
set_option maxRecDepth 100000 in
set_option maxHeartbeats 4000000 in
theorem c_markX (base : Nat) (a : Option Addr) (n c k0 : Nat) (L : List EN) (w : World) (hown : w.ownsRow base 62 7 (.slice a n c) n (cellsE L)) (h1 : 1 ≤ k0) (hn : n ≤ 2097152) (hk : k0 ≤ 8796093022208) :
    Calls Try.prog 10 #[.agg #[.slice a n c], .int .i64 k0] w fun e w' => (∃ z : Int, e = .returned (.int .i64 z) ∧ ¬ z < 0) ∧ w.grownBy w' (ob a) := by
  obtain ⟨V, hV⟩ : ∃ V, w.alloc (.cells #[.slice a n c] 31) = V := ⟨_, rfl⟩
  have bV : Below w.heap.size w V := by rw [← hV]; exact (Below.refl _ _).alloc (Nat.le_refl _) _
  have q0 : V.cell? ⟨w.heap.size, 0, none⟩ = some (.slice a n c) := by rw [← hV]; exact (Box.new w #[.slice a n c] 31).cell 0
  have C := c_markE base (.slice a n c) n k0 L V (own_below hown bV) h1 hn hk
  have HbV : Hid (Below w.heap.size w V) := bV
  obtain ⟨z, hz⟩ : ∃ z : Int, ((k0 + n * 7 : Nat) : Int) = z := ⟨_, rfl⟩
  have hz0 : Hid (¬ z < 0) := by unfold Hid; omega
  rw [hz] at C
  clear hown bV hz
  go_enter Try.func10, Try.ntmps10
  go_wp2_with fail
  refine C.mono ?_
  rintro e w1 ⟨rfl, _, hg⟩
  have HG : Hid (w.grownBy w1 (ob a)) := by rw [ob_slice] at hg; exact grown_pre HbV.out hg
  clear hg C
  go_wp2
  go_ret
  exact ⟨⟨z, rfl, hz0.out⟩, HG.out⟩
set_option maxRecDepth 100000 in
set_option maxHeartbeats 4000000 in
theorem law_FnExactCompileExpr (a : Option Addr) (n c : Nat) (L : List EN) (w : World) (hr : RdE w a n L) (hm : n ≤ maxLen) (hs : ∀ v ∈ L, v.t.size ≤ maxLen) :
    Calls Try.prog 3 #[.agg #[.slice a n c]] w fun e w' => e = .returned (.bool true) ∧ Below w.heap.size w w' := by
  obtain ⟨V, hV⟩ : ∃ V, w.alloc (.cells #[.slice a n c] 24) = V := ⟨_, rfl⟩
  have B0 : Hid (Below w.heap.size w V) := by unfold Hid; rw [← hV]; exact (Below.refl _ _).alloc (Nat.le_refl _) _
  have X0 : Hid (Box V w.heap.size 24 #[.slice a n c]) := by unfold Hid; rw [← hV]; exact Box.new _ _ _
  have C1 := c_szX a n c L 1048576 V (hr.below B0.out) hm hs (by omega) (by omega)
  have HR : Hid (RdE w a n L) := hr
  have HS : Hid (∀ v ∈ L, v.t.size ≤ maxLen) := hs
  clear hr hs
  have x0 : V.cell? ⟨w.heap.size, 0, none⟩ = some (.slice a n c) := X0.out.cell 0
  go_enter Try.func3, Try.ntmps3
  go_wp2_with fail
  refine C1.mono ?_
  rintro e w1 ⟨⟨z, rfl, hz, hzn⟩, hb⟩
  have B1 : Hid (Below w.heap.size w w1) := B0.out.trans (hb.mono B0.out.size)
  have X1 : Hid (Box w1 w.heap.size 24 #[.slice a n c]) := X0.out.belowS hb
  clear hb B0 X0 C1 hV x0
  by_cases hneg : z < 0
  · clear hzn
    go_wp2
    go_ret
    exact ⟨rfl, B1.out⟩
  have hn : n ≤ 1048576 := hzn (by omega)
  obtain ⟨R, hR⟩ : ∃ R, ceL L n = R := ⟨_, rfl⟩
  obtain ⟨cc, hcc⟩ : ∃ x, ceC L n = x := ⟨_, rfl⟩
  have hRl : R.length ≤ 1000 := by rw [← hR]; exact ce_len L n
  have CT : Hid (∀ W, Below w.heap.size w W → Calls Try.prog 6 #[.agg #[.slice a n c]] W fun e w' => (∃ (a' : Option Addr) (c' : Nat), e = .returned (.agg #[.slice a' n c']) ∧ w'.ownsRow W.heap.size 62 7 (.slice a' n c') n (cellsE L)) ∧ Below W.heap.size W w') := fun W hW => c_toXo a n c L W (HR.out.below hW) hn
  have CS : Hid (∀ W a' c', RdE W a' n L → Calls Try.prog 5 #[.agg #[.slice a' n c']] W fun e w' => CPost W w' R cc e) := fun W a' c' h => by rw [← hR, ← hcc]; exact c_specCE L a' n c' W h hn HS.out
  have CI : Hid (∀ W a' c', RdE W a' n L → Calls Try.prog 7 #[.agg #[.slice a' n c']] W fun e w' => CPost W w' R cc e) := fun W a' c' h => by rw [← hR, ← hcc]; exact c_implCE L a' n c' W h hn HS.out
  have CE : Hid (∀ W a1 c1 a2 c2, RdE W a1 n L → RdE W a2 n L → Calls Try.prog 9 #[.agg #[.slice a1 n c1], .agg #[.slice a2 n c2]] W fun e w' => e = .returned (.bool true) ∧ Below W.heap.size W w') := fun W a1 c1 a2 c2 h1 h2 => c_eqX a1 a2 n c1 c2 L W h1 h2 hn
  have CQ : Hid (∀ W a1 c1 a2 c2, RdI W a1 R.length R → RdI W a2 R.length R → Calls Try.prog 8 #[.slice a1 R.length c1, .slice a2 R.length c2] W fun e w' => e = .returned (.bool true) ∧ Below W.heap.size W w') := fun W a1 c1 a2 c2 h1 h2 => c_eqI a1 a2 R.length c1 c2 R W h1 h2 (by omega)
  clear hzn HS HR hR hcc
  have x0 : w1.cell? ⟨w.heap.size, 0, none⟩ = some (.slice a n c) := X1.out.cell 0
  go_wp2_with fail
  refine (CT.out w1 B1.out).mono ?_
  rintro e w2 ⟨⟨a2, c2, rfl, r2⟩, hb⟩
  have CS2 := CS.out w2 a2 c2 (RdE.own r2)
  have hw12 : w.heap.size ≤ w1.heap.size ∧ w.heap.size < w2.heap.size := ⟨B1.out.size, by have := X1.out.lt; have := hb.size; omega⟩
  have B2 : Hid (Below w.heap.size w w2) := B1.out.trans (hb.mono B1.out.size)
  have X2 : Hid (Box w2 w.heap.size 24 #[.slice a n c]) := X1.out.belowS hb
  have s2 : w1.heap.size ≤ w2.heap.size := hb.size
  clear hb B1 X1
  have B2s : Hid (w.heap.size ≤ w1.heap.size ∧ w.heap.size < w2.heap.size) := hw12
  clear CS r2 x0
  go_wp2_with fail
  refine CS2.mono ?_
  rintro e w3 ⟨⟨aw, cw, rfl, ow⟩, hb⟩
  have OW3 : Hid (w3.ownsRow w2.heap.size 50 5 (.slice aw R.length cw) R.length (cellsI R)) := ow
  have B3 : Hid (Below w.heap.size w w3) := B2.out.trans (hb.mono B2.out.size)
  have X3 : Hid (Box w3 w.heap.size 24 #[.slice a n c]) := X2.out.belowS hb
  have s3 : w2.heap.size ≤ w3.heap.size := hb.size
  clear hb B2 X2
  clear CS2 ow
  have x0 : w3.cell? ⟨w.heap.size, 0, none⟩ = some (.slice a n c) := X3.out.cell 0
  go_wp2_with fail
  refine (CT.out w3 B3.out).mono ?_
  rintro e w4 ⟨⟨ax, cx, rfl, ox⟩, hb⟩
  have GW : Hid (∀ g, ob aw = some g → w2.heap.size ≤ g ∧ g < w3.heap.size) := own_blk OW3.out
  have OX4 : Hid (w4.ownsRow w3.heap.size 62 7 (.slice ax n cx) n (cellsE L)) := ox
  have GX : Hid (∀ g, ob ax = some g → w3.heap.size ≤ g ∧ g < w4.heap.size) := own_blk OX4.out
  have B4 : Hid (Below w.heap.size w w4) := B3.out.trans (hb.mono B3.out.size)
  have X4 : Hid (Box w4 w.heap.size 24 #[.slice a n c]) := X3.out.belowS hb
  have OW4 : Hid (w4.ownsRow w2.heap.size 50 5 (.slice aw R.length cw) R.length (cellsI R)) := own_below OW3.out hb
  have s4 : w3.heap.size ≤ w4.heap.size := hb.size
  clear hb B3 X3 OW3
  clear ox x0
  obtain ⟨w5, hw5⟩ : ∃ W, w4.alloc (.cells #[.slice ax n cx] 31) = W := ⟨_, rfl⟩
  have hb : Below w4.heap.size w4 w5 := by rw [← hw5]; exact (Below.refl _ _).alloc (Nat.le_refl _) _
  have Y5 : Hid (Box w5 w4.heap.size 31 #[.slice ax n cx]) := by unfold Hid; rw [← hw5]; exact Box.new _ _ _
  have B5 : Hid (Below w.heap.size w w5) := B4.out.trans (hb.mono B4.out.size)
  have X5 : Hid (Box w5 w.heap.size 24 #[.slice a n c]) := X4.out.belowS hb
  have OW5 : Hid (w5.ownsRow w2.heap.size 50 5 (.slice aw R.length cw) R.length (cellsI R)) := own_below OW4.out hb
  have OX5 : Hid (w5.ownsRow w3.heap.size 62 7 (.slice ax n cx) n (cellsE L)) := own_below OX4.out hb
  have s5 : w4.heap.size ≤ w5.heap.size := hb.size
  clear hb B4 X4 OW4 OX4
  have C5 := CI.out w5 ax cx (RdE.own OX5.out)
  have y0 : w5.cell? ⟨w4.heap.size, 0, none⟩ = some (.slice ax n cx) := Y5.out.cell 0
  go_wp2_with fail
  refine C5.mono ?_
  rintro e w6 ⟨⟨ag, cg, rfl, og⟩, hb⟩
  have OG6 : Hid (w6.ownsRow w5.heap.size 50 5 (.slice ag R.length cg) R.length (cellsI R)) := og
  have GG : Hid (∀ g, ob ag = some g → w5.heap.size ≤ g ∧ g < w6.heap.size) := own_blk OG6.out
  have l5 : w4.heap.size < w5.heap.size := Y5.out.lt
  have B6 : Hid (Below w.heap.size w w6) := B5.out.trans (hb.mono B5.out.size)
  have X6 : Hid (Box w6 w.heap.size 24 #[.slice a n c]) := X5.out.belowS hb
  have Y6 : Hid (Box w6 w4.heap.size 31 #[.slice ax n cx]) := Y5.out.belowS hb
  have OW6 : Hid (w6.ownsRow w2.heap.size 50 5 (.slice aw R.length cw) R.length (cellsI R)) := own_below OW5.out hb
  have OX6 : Hid (w6.ownsRow w3.heap.size 62 7 (.slice ax n cx) n (cellsE L)) := own_below OX5.out hb
  have s6 : w5.heap.size ≤ w6.heap.size := hb.size
  clear hb B5 X5 Y5 OW5 OX5
  clear og C5 y0 hw5
  have nn : (cc != cc) = false := by simp
  have C6 := CQ.out w6 ag cg aw cw (RdI.own OG6.out) (RdI.own OW6.out)
  go_wp2_with fail
  refine C6.mono ?_
  rintro e w7 ⟨rfl, hb⟩
  have B7 : Hid (Below w.heap.size w w7) := B6.out.trans (hb.mono B6.out.size)
  have X7 : Hid (Box w7 w.heap.size 24 #[.slice a n c]) := X6.out.belowS hb
  have Y7 : Hid (Box w7 w4.heap.size 31 #[.slice ax n cx]) := Y6.out.belowS hb
  have OW7 : Hid (w7.ownsRow w2.heap.size 50 5 (.slice aw R.length cw) R.length (cellsI R)) := own_below OW6.out hb
  have OX7 : Hid (w7.ownsRow w3.heap.size 62 7 (.slice ax n cx) n (cellsE L)) := own_below OX6.out hb
  have OG7 : Hid (w7.ownsRow w5.heap.size 50 5 (.slice ag R.length cg) R.length (cellsI R)) := own_below OG6.out hb
  have s7 : w6.heap.size ≤ w7.heap.size := hb.size
  clear hb B6 X6 Y6 OW6 OX6 OG6
  clear C6
  have x0 : w7.cell? ⟨w.heap.size, 0, none⟩ = some (.slice a n c) := X7.out.cell 0
  have y0 : w7.cell? ⟨w4.heap.size, 0, none⟩ = some (.slice ax n cx) := Y7.out.cell 0
  have RX7 : Hid (RdE w7 ax n L) := RdE.own OX7.out
  go_wp2_with fail
  go_region_held3 (fun x => x.cell? ⟨w.heap.size, 0, none⟩ = some (.slice a n c) ∧ x.cell? ⟨w4.heap.size, 0, none⟩ = some (.slice ax n cx))
    (first | exact ⟨far6 hb8 (far6 hb7 x0), far6 hb8 (far6 hb7 y0)⟩ | exact ⟨far6 hb7 x0, far6 hb7 y0⟩ | go_keep)
    (first | (go_at_call 6; refine (CT.out _ (below_drewN B7.out _)).mono ?_; rintro e wa ⟨⟨a7, c7, rfl, r7⟩, hb7⟩)
           | (go_at_call 9; refine (CE.out _ _ _ _ _ (RX7.out.below ((Below.refl _ _).drew.trans hb7)) (RdE.own r7)).mono ?_; rintro e w8 ⟨rfl, hb8⟩))
  have hb : Below w7.heap.size w7 w8 := ((Below.refl w7.heap.size w7).drew.trans hb7).trans (hb8.mono hb7.size)
  clear hb7 hb8 r7 x0 y0 CE RX7
  have B8 : Hid (Below w.heap.size w w8) := B7.out.trans (hb.mono B7.out.size)
  have X8 : Hid (Box w8 w.heap.size 24 #[.slice a n c]) := X7.out.belowS hb
  have Y8 : Hid (Box w8 w4.heap.size 31 #[.slice ax n cx]) := Y7.out.belowS hb
  have OW8 : Hid (w8.ownsRow w2.heap.size 50 5 (.slice aw R.length cw) R.length (cellsI R)) := own_below OW7.out hb
  have OX8 : Hid (w8.ownsRow w3.heap.size 62 7 (.slice ax n cx) n (cellsE L)) := own_below OX7.out hb
  have OG8 : Hid (w8.ownsRow w5.heap.size 50 5 (.slice ag R.length cg) R.length (cellsI R)) := own_below OG7.out hb
  have s8 : w7.heap.size ≤ w8.heap.size := hb.size
  clear hb B7 X7 Y7 OW7 OX7 OG7
  have C8 := c_markX w3.heap.size ax n cx 1 L w8 OX8.out (by omega) (by omega) (by omega)
  have y0 : w8.cell? ⟨w4.heap.size, 0, none⟩ = some (.slice ax n cx) := Y8.out.cell 0
  go_wp2_with fail
  refine C8.mono ?_
  rintro e w9 ⟨⟨z9, rfl, hz9⟩, hg⟩
  have B9 : Hid (Below w.heap.size w w9) := below_grown B8.out hg (fun g e => by have := GX.out g e; have := B8.out.size; have := B2s.out; omega)
  have X9 : Hid (Box w9 w.heap.size 24 #[.slice a n c]) := X8.out.grown hg (fun e => by have := GX.out _ e; have := B2s.out; omega)
  have OW9 : Hid (w9.ownsRow w2.heap.size 50 5 (.slice aw R.length cw) R.length (cellsI R)) := own_grown OW8.out hg (fun g e q => by have := GW.out g e; have := GX.out g q; omega)
  have OG9 : Hid (w9.ownsRow w5.heap.size 50 5 (.slice ag R.length cg) R.length (cellsI R)) := own_grown OG8.out hg (fun g e q => by have := GG.out g e; have := GX.out g q; omega)
  have s9 : w8.heap.size ≤ w9.heap.size := hg.size
  clear hg B8 X8 OW8 OG8 OX8 Y8 C8 y0
  have C9 := CQ.out w9 ag cg aw cw (RdI.own OG9.out) (RdI.own OW9.out)
  go_wp2_with fail
  refine C9.mono ?_
  rintro e w10 ⟨rfl, hb⟩
  have B10 : Hid (Below w.heap.size w w10) := B9.out.trans (hb.mono B9.out.size)
  have X10 : Hid (Box w10 w.heap.size 24 #[.slice a n c]) := X9.out.belowS hb
  have OW10 : Hid (w10.ownsRow w2.heap.size 50 5 (.slice aw R.length cw) R.length (cellsI R)) := own_below OW9.out hb
  have OG10 : Hid (w10.ownsRow w5.heap.size 50 5 (.slice ag R.length cg) R.length (cellsI R)) := own_below OG9.out hb
  have s10 : w9.heap.size ≤ w10.heap.size := hb.size
  clear hb B9 X9 OW9 OG9
  clear C9
  have C10 := c_markI w5.heap.size (.slice ag R.length cg) R.length 1 R w10 OG10.out (by omega) (by omega) (by omega)
  have CH : Hid (∀ W, RdI W ag R.length (marksI 1 R.length) → Calls Try.prog 12 #[.slice ag R.length cg, .int .i64 1] W fun e w' => e = .returned (.int .i64 (1 + R.length * 5 : Nat)) ∧ Below W.heap.size W w') := fun W h => c_heldI ag R.length cg 1 W h (by omega) (by omega) (by omega)
  obtain ⟨m, hm'⟩ : ∃ m : Int, ((1 + R.length * 5 : Nat) : Int) = m := ⟨_, rfl⟩
  have hm0 : ¬ m < 0 := by omega
  have mm : (m != m) = false := by simp
  rw [hm'] at C10 CH
  clear hm'
  go_wp2_with fail
  refine C10.mono ?_
  rintro e w11 ⟨rfl, og, hg⟩
  rw [ob_slice] at hg
  have OG11 : Hid (w11.ownsRow w5.heap.size 50 5 (.slice ag R.length cg) R.length (cellsI (marksI 1 R.length))) := og
  have B11 : Hid (Below w.heap.size w w11) := below_grown B10.out hg (fun g e => by have := GG.out g e; have := B2s.out; omega)
  have X11 : Hid (Box w11 w.heap.size 24 #[.slice a n c]) := X10.out.grown hg (fun e => by have := GG.out _ e; have := B2s.out; omega)
  have OW11 : Hid (w11.ownsRow w2.heap.size 50 5 (.slice aw R.length cw) R.length (cellsI R)) := own_grown OW10.out hg (fun g e q => by have := GW.out g e; have := GG.out g q; omega)
  have s11 : w10.heap.size ≤ w11.heap.size := hg.size
  clear hg og B10 X10 OW10 OG10 C10
  have C11 := CH.out w11 (RdI.own OG11.out)
  go_wp2_with fail
  refine C11.mono ?_
  rintro e w12 ⟨rfl, hb⟩
  have B12 : Hid (Below w.heap.size w w12) := B11.out.trans (hb.mono B11.out.size)
  have X12 : Hid (Box w12 w.heap.size 24 #[.slice a n c]) := X11.out.belowS hb
  have OW12 : Hid (w12.ownsRow w2.heap.size 50 5 (.slice aw R.length cw) R.length (cellsI R)) := own_below OW11.out hb
  have OG12 : Hid (w12.ownsRow w5.heap.size 50 5 (.slice ag R.length cg) R.length (cellsI (marksI 1 R.length))) := own_below OG11.out hb
  have s12 : w11.heap.size ≤ w12.heap.size := hb.size
  clear hb B11 X11 OW11 OG11
  clear C11
  have x0 : w12.cell? ⟨w.heap.size, 0, none⟩ = some (.slice a n c) := X12.out.cell 0
  go_wp2_with fail
  refine (CT.out w12 B12.out).mono ?_
  rintro e w13 ⟨⟨ay, cy, rfl, oy⟩, hb⟩
  have C13 := CI.out w13 ay cy (RdE.own oy)
  have B13 : Hid (Below w.heap.size w w13) := B12.out.trans (hb.mono B12.out.size)
  have X13 : Hid (Box w13 w.heap.size 24 #[.slice a n c]) := X12.out.belowS hb
  have OW13 : Hid (w13.ownsRow w2.heap.size 50 5 (.slice aw R.length cw) R.length (cellsI R)) := own_below OW12.out hb
  have OG13 : Hid (w13.ownsRow w5.heap.size 50 5 (.slice ag R.length cg) R.length (cellsI (marksI 1 R.length))) := own_below OG12.out hb
  have s13 : w12.heap.size ≤ w13.heap.size := hb.size
  clear hb B12 X12 OW12 OG12
  clear oy x0
  go_wp2_with fail
  refine C13.mono ?_
  rintro e w14 ⟨⟨ah, ch, rfl, oh⟩, hb⟩
  have OH14 : Hid (w14.ownsRow w13.heap.size 50 5 (.slice ah R.length ch) R.length (cellsI R)) := oh
  have B14 : Hid (Below w.heap.size w w14) := B13.out.trans (hb.mono B13.out.size)
  have X14 : Hid (Box w14 w.heap.size 24 #[.slice a n c]) := X13.out.belowS hb
  have OW14 : Hid (w14.ownsRow w2.heap.size 50 5 (.slice aw R.length cw) R.length (cellsI R)) := own_below OW13.out hb
  have OG14 : Hid (w14.ownsRow w5.heap.size 50 5 (.slice ag R.length cg) R.length (cellsI (marksI 1 R.length))) := own_below OG13.out hb
  have s14 : w13.heap.size ≤ w14.heap.size := hb.size
  clear hb B13 X13 OW13 OG13
  clear C13 oh
  have C14 := CQ.out w14 ah ch aw cw (RdI.own OH14.out) (RdI.own OW14.out)
  go_wp2_with fail
  refine C14.mono ?_
  rintro e w15 ⟨rfl, hb⟩
  have B15 : Hid (Below w.heap.size w w15) := B14.out.trans (hb.mono B14.out.size)
  have X15 : Hid (Box w15 w.heap.size 24 #[.slice a n c]) := X14.out.belowS hb
  have OG15 : Hid (w15.ownsRow w5.heap.size 50 5 (.slice ag R.length cg) R.length (cellsI (marksI 1 R.length))) := own_below OG14.out hb
  have s15 : w14.heap.size ≤ w15.heap.size := hb.size
  clear hb B14 X14 OG14
  clear C14
  have C15 := CH.out w15 (RdI.own OG15.out)
  go_wp2_with fail
  refine C15.mono ?_
  rintro e w16 ⟨rfl, hb⟩
  have B16 : Hid (Below w.heap.size w w16) := B15.out.trans (hb.mono B15.out.size)
  clear hb C15
  go_wp2
  go_ret
  exact ⟨rfl, B16.out⟩

end Go.Proofs.Ytepeaabacfjheaa
