/-
  Stores: marks, and what was marked is held.
-/
import Derived.Test.YtkpopingbbaomaaGreatDoorZzas
import Derived.Test.YtkpopingbbaomaaGreatDoorZzal
import Derived.Test.YtkpopingbbaomaaGreatDoorYteq
namespace Go.Proofs.YtkpopingbbaomaaGreatDoor
open Go Go.RowKit
attribute [local go_sem ↓] Go.wp_at_zero Go.wp_at_succ

/-- A store whose arrays are the call's own, made since B and ahead of E: the disk's, the log's, the frames' with their pages', each in a part of its own. -/
def OwnT (w : World) (B E : Nat) (h : HD) (D : DD) (la : Option Addr) (ln lc : Nat) (Lg : List DR) (fa : Option Addr) (fn fc : Nat) (F : List FF) : Prop :=
  ∃ d0 d1 l0 l1 f0 f1 p1, (B ≤ d0 ∧ d1 ≤ E ∧ B ≤ l0 ∧ l1 ≤ E ∧ B ≤ f0 ∧ f0 ≤ f1 ∧ f1 ≤ p1 ∧ p1 ≤ E ∧ E ≤ w.heap.size ∧ (d1 ≤ l0 ∨ l1 ≤ d0) ∧ (d1 ≤ f0 ∨ p1 ≤ d0) ∧ (l1 ≤ f0 ∨ p1 ≤ l0)) ∧
    OwnD w d0 d1 h D ∧ (w.ownsRow l0 78 10 (.slice la ln lc) ln (cellsQ Lg) ∧ ∀ g, ob la = some g → l0 ≤ g ∧ g < l1) ∧ (w.ownsRow f0 142 5 (.slice fa fn fc) fn (cellsF F) ∧ ∀ g, ob fa = some g → f0 ≤ g ∧ g < f1) ∧ OwnF w f1 p1 F ∧ PwF F
theorem OwnT.rd {w : World} {B E : Nat} {h : HD} {D : DD} {la : Option Addr} {ln lc : Nat} {Lg : List DR} {fa : Option Addr} {fn fc : Nat} {F : List FF} (o : OwnT w B E h D la ln lc Lg fa fn fc F) : RdD w h D ∧ RdQ w la ln Lg ∧ RdF w fa fn F := by
  obtain ⟨d0, d1, l0, l1, f0, f1, p1, _, o1, o2, o3, o4, _⟩ := o
  exact ⟨o1.rd, RdQ.own o2.1, o4.rdF o3.1⟩
theorem OwnT.same {w w' : World} {B E : Nat} {h : HD} {D : DD} {la : Option Addr} {ln lc : Nat} {Lg : List DR} {fa : Option Addr} {fn fc : Nat} {F : List FF} (o : OwnT w B E h D la ln lc Lg fa fn fc F) (hsz : w.heap.size ≤ w'.heap.size) (hs : ∀ g, B ≤ g → g < E → w'.heap[g]? = w.heap[g]?) : OwnT w' B E h D la ln lc Lg fa fn fc F := by
  obtain ⟨d0, d1, l0, l1, f0, f1, p1, hh, o1, o2, o3, o4, o5⟩ := o
  refine ⟨d0, d1, l0, l1, f0, f1, p1, by omega, o1.same hsz fun g h1 h2 => hs g (by omega) (by omega), ⟨own_same o2.1 fun g e => ?_, o2.2⟩, ⟨own_same o3.1 fun g e => ?_, o3.2⟩, o4.same hsz fun g h1 h2 => hs g (by omega) (by omega), o5⟩
  · rw [ob_slice] at e; have := o2.2 g e; exact hs g (by omega) (by omega)
  · rw [ob_slice] at e; have := o3.2 g e; exact hs g (by omega) (by omega)
theorem OwnT.below {w w' : World} {B E : Nat} {h : HD} {D : DD} {la : Option Addr} {ln lc : Nat} {Lg : List DR} {fa : Option Addr} {fn fc : Nat} {F : List FF} (o : OwnT w B E h D la ln lc Lg fa fn fc F) (hb : Below w.heap.size w w') : OwnT w' B E h D la ln lc Lg fa fn fc F :=
  o.same hb.size fun g _ h2 => hb.block g (by obtain ⟨d0, d1, l0, l1, f0, f1, p1, hh, _⟩ := o; omega)
theorem Inn.wide {B E B' E' : Nat} {w w' : World} (h : Inn B E w w') (hb : B' ≤ B) (he : E ≤ E') : Inn B' E' w w' :=
  ⟨h.os, h.tape, h.output, h.size, fun k hk ho => h.block k hk (by omega)⟩
/-- What the marks of a store end with. -/
def mkQ (h : HD) : Nat := markN h
def mkF (h : HD) (ln : Nat) : Nat := markN h + ln * 10
def mkE (h : HD) (ln : Nat) (F : List FF) : Nat := fEnd (mkF h ln) F
theorem markN_le {h : HD} (f0 : h.n0 ≤ 1048576) (f1 : h.n1 ≤ 1048576) (f2 : h.n2 ≤ 1048576) : 1 ≤ markN h ∧ markN h ≤ 8388608 := by unfold markN; omega
set_option maxRecDepth 100000 in
set_option maxHeartbeats 8000000 in
theorem c_markST (h : HD) (D : DD) (ep : Int) (la : Option Addr) (ln lc : Nat) (Lg : List DR) (su : Int) (fa : Option Addr) (fn fc : Nat) (F : List FF) (ha : Int) (B E : Nat) (w : World) (o : OwnT w B E h D la ln lc Lg fa fn fc F) (f0 : h.n0 ≤ 1048576) (f1 : h.n1 ≤ 1048576) (f2 : h.n2 ≤ 1048576) (f3 : ln ≤ 1048576) (f4 : fn ≤ 1048576) (f5 : ∀ f ∈ F, f.h.n ≤ 1048576) :
    Calls Tryz.prog 42 #[.agg #[.slice h.a0 h.n0 h.c0, .slice h.a1 h.n1 h.c1, .bool h.b, .slice h.a2 h.n2 h.c2, .int .i64 ep, .slice la ln lc, .int .i64 su, .slice fa fn fc, .int .i64 ha], .int .i64 1] w fun e w' => e = .returned (.int .i64 (mkE h ln F : Nat)) ∧ OwnT w' B E h (markD h) la ln lc (marksQ (mkQ h) ln) fa fn fc (fMks (mkF h ln) F) ∧ Inn B E w w' := by
  obtain ⟨d0, d1, l0, l1, e0, e1, p1, hh, o1, o2, o3, o4, o5⟩ := o
  obtain ⟨V, hV⟩ : ∃ V, w.alloc (.cells #[.slice h.a0 h.n0 h.c0, .slice h.a1 h.n1 h.c1, .bool h.b, .slice h.a2 h.n2 h.c2, .int .i64 ep, .slice la ln lc, .int .i64 su, .slice fa fn fc, .int .i64 ha] 46) = V := ⟨_, rfl⟩
  have hb0 : Below w.heap.size w V := by rw [← hV]; exact (Below.refl _ _).alloc (Nat.le_refl _) _
  have X0 : Hid (Box V w.heap.size 46 #[.slice h.a0 h.n0 h.c0, .slice h.a1 h.n1 h.c1, .bool h.b, .slice h.a2 h.n2 h.c2, .int .i64 ep, .slice la ln lc, .int .i64 su, .slice fa fn fc, .int .i64 ha]) := by unfold Hid; rw [← hV]; exact Box.new _ _ _
  have hmk := markN_le f0 f1 f2
  have hl0 : w.heap.size < V.heap.size := X0.out.lt
  have hbl : ∀ g, g < w.heap.size → V.heap[g]? = w.heap[g]? := fun g hg => hb0.block g hg
  have O1 : Hid (OwnD V d0 d1 h D) := o1.same hb0.size fun g _ h2 => hbl g (by omega)
  have O2 : Hid (V.ownsRow l0 78 10 (.slice la ln lc) ln (cellsQ Lg)) := own_same o2.1 fun g e => hbl g (by rw [ob_slice] at e; have := o2.2 g e; omega)
  have O3 : Hid (V.ownsRow e0 142 5 (.slice fa fn fc) fn (cellsF F)) := own_same o3.1 fun g e => hbl g (by rw [ob_slice] at e; have := o3.2 g e; omega)
  have O4 : Hid (OwnF V e1 p1 F) := o4.same hb0.size fun g _ h2 => hbl g (by omega)
  have P2 : Hid (∀ g, ob la = some g → l0 ≤ g ∧ g < l1) := o2.2
  have P3 : Hid (∀ g, ob fa = some g → e0 ≤ g ∧ g < e1) := o3.2
  have P5 : Hid (PwF F) := o5
  have P6 : Hid (∀ f ∈ F, f.h.n ≤ 1048576) := f5
  have I0 : Hid (Inn B E w V) := Inn.of_below hb0
  have C1 := c_markDisk h D d0 d1 V O1.out f0 f1 f2
  clear o1 o2 o3 o4 o5 f5 O1 hbl hb0
  obtain ⟨x0, x1, x2, x3, x4, x5, x6, x7, x8⟩ := box9 X0.out
  go_enter Tryz.func42, Tryz.ntmps42
  go_wp2_with fail
  refine C1.mono ?_
  rintro e w1 ⟨rfl, d1o, in1⟩
  have X1 : Hid (Box w1 w.heap.size 46 #[.slice h.a0 h.n0 h.c0, .slice h.a1 h.n1 h.c1, .bool h.b, .slice h.a2 h.n2 h.c2, .int .i64 ep, .slice la ln lc, .int .i64 su, .slice fa fn fc, .int .i64 ha]) := X0.out.inn in1 (by omega)
  have hs1 := in1.size
  have I1 : Hid (Inn B E w w1) := I0.out.trans (in1.wide (by omega) (by omega))
  have D1 : Hid (OwnD w1 d0 d1 h (markD h)) := d1o
  have hk1 : ∀ g, g < V.heap.size → (g < d0 ∨ d1 ≤ g) → w1.heap[g]? = V.heap[g]? := fun g h1 h2 => in1.block g h1 h2
  have Q2 : Hid (w1.ownsRow l0 78 10 (.slice la ln lc) ln (cellsQ Lg)) := own_same O2.out fun g e => by rw [ob_slice] at e; have := P2.out g e; exact hk1 g (by omega) (by omega)
  have Q3 : Hid (w1.ownsRow e0 142 5 (.slice fa fn fc) fn (cellsF F)) := own_same O3.out fun g e => by rw [ob_slice] at e; have := P3.out g e; exact hk1 g (by omega) (by omega)
  have Q4 : Hid (OwnF w1 e1 p1 F) := O4.out.same hs1 fun g h1 h2 => hk1 g (by omega) (by omega)
  have C2 := c_markQ2 l0 (.slice la ln lc) ln (markN h) Lg w1 Q2.out (by omega) (by omega) (by omega)
  clear C1 d1o in1 X0 I0 O2 O3 O4 hk1 Q2 hV x0 x1 x2 x3 x4 x5 x6 x7 x8
  obtain ⟨x0, x1, x2, x3, x4, x5, x6, x7, x8⟩ := box9 X1.out
  go_wp2_with fail
  refine C2.mono ?_
  rintro e w2 ⟨rfl, q2o, gr2⟩
  rw [ob_slice] at gr2
  have in2 : Inn l0 l1 w1 w2 := Inn.of_grown gr2 P2.out
  have hs2 := in2.size
  have X2 : Hid (Box w2 w.heap.size 46 #[.slice h.a0 h.n0 h.c0, .slice h.a1 h.n1 h.c1, .bool h.b, .slice h.a2 h.n2 h.c2, .int .i64 ep, .slice la ln lc, .int .i64 su, .slice fa fn fc, .int .i64 ha]) := X1.out.inn in2 (by omega)
  have I2 : Hid (Inn B E w w2) := I1.out.trans (in2.wide (by omega) (by omega))
  have D2 : Hid (OwnD w2 d0 d1 h (markD h)) := D1.out.same hs2 fun g h1 h2 => in2.block g (by omega) (by omega)
  have R2 : Hid (w2.ownsRow l0 78 10 (.slice la ln lc) ln (cellsQ (marksQ (markN h) ln))) := q2o
  have R3 : Hid (w2.ownsRow e0 142 5 (.slice fa fn fc) fn (cellsF F)) := own_same Q3.out fun g e => by rw [ob_slice] at e; have := P3.out g e; exact in2.block g (by omega) (by omega)
  have R4 : Hid (OwnF w2 e1 p1 F) := Q4.out.same hs2 fun g h1 h2 => in2.block g (by omega) (by omega)
  have C3 : Hid (∀ x : Int, x = ((mkF h ln : Nat) : Int) → Calls Tryz.prog 106 #[.slice fa fn fc, .int .i64 x] w2 fun e w' => e = .returned (.int .i64 (fEnd (mkF h ln) F : Nat)) ∧ w'.ownsRow e0 142 5 (.slice fa fn fc) fn (cellsF (fMks (mkF h ln) F)) ∧ OwnF w' e1 p1 (fMks (mkF h ln) F) ∧ Inn e0 p1 w2 w') := fun x hx => by subst hx; exact c_markF e0 e1 p1 fa fn fc (mkF h ln) F w2 R3.out P3.out (by omega) R4.out P5.out (by unfold mkF; omega) (by unfold mkF; omega) f4 P6.out
  clear C2 q2o gr2 in2 X1 I1 D1 Q3 Q4 R3 R4 x0 x1 x2 x3 x4 x5 x6 x7 x8
  obtain ⟨x0, x1, x2, x3, x4, x5, x6, x7, x8⟩ := box9 X2.out
  go_wp2_with fail
  refine (C3.out _ (by unfold mkF; omega)).mono ?_
  rintro e w3 ⟨rfl, f3o, f4o, in3⟩
  have hs3 := in3.size
  have D3 : OwnD w3 d0 d1 h (markD h) := D2.out.same hs3 fun g h1 h2 => in3.block g (by omega) (by omega)
  have S2 : w3.ownsRow l0 78 10 (.slice la ln lc) ln (cellsQ (marksQ (markN h) ln)) := own_same R2.out fun g e => by rw [ob_slice] at e; have := P2.out g e; exact in3.block g (by omega) (by omega)
  have PW : PwF (fMks (mkF h ln) F) := fun i j hij hj g e1' e2 => by
    rw [fMks_len] at hj
    have a1 := (fMix_h F (mkF h ln) F.length i).1
    have a2 := (fMix_h F (mkF h ln) F.length j).1
    rw [fMix_full _ _ _ (Nat.le_refl _)] at a1 a2
    rw [a1] at e1'
    rw [a2] at e2
    exact P5.out i j hij hj g e1' e2
  have RES : Hid (OwnT w3 B E h (markD h) la ln lc (marksQ (mkQ h) ln) fa fn fc (fMks (mkF h ln) F)) := ⟨d0, d1, l0, l1, e0, e1, p1, by omega, D3, ⟨S2, P2.out⟩, ⟨f3o, P3.out⟩, f4o, PW⟩
  have I3 : Hid (Inn B E w w3) := I2.out.trans (in3.wide (by omega) (by omega))
  clear f3o f4o in3 D3 S2 PW C3 X2 I2 D2 R2 x0 x1 x2 x3 x4 x5 x6 x7 x8
  go_wp2
  go_ret
  exact ⟨rfl, RES.out, I3.out⟩
set_option maxRecDepth 100000 in
set_option maxHeartbeats 8000000 in
theorem c_heldST (h : HD) (ep : Int) (la : Option Addr) (ln lc : Nat) (su : Int) (fa : Option Addr) (fn fc : Nat) (F : List FF) (ha : Int) (w : World) (r : RdD w h (markD h)) (rl : RdQ w la ln (marksQ (mkQ h) ln)) (rf : RdF w fa fn (fMks (mkF h ln) F)) (f0 : h.n0 ≤ 1048576) (f1 : h.n1 ≤ 1048576) (f2 : h.n2 ≤ 1048576) (f3 : ln ≤ 1048576) (f4 : fn ≤ 1048576) (f5 : ∀ f ∈ F, f.h.n ≤ 1048576) :
    Calls Tryz.prog 43 #[.agg #[.slice h.a0 h.n0 h.c0, .slice h.a1 h.n1 h.c1, .bool h.b, .slice h.a2 h.n2 h.c2, .int .i64 ep, .slice la ln lc, .int .i64 su, .slice fa fn fc, .int .i64 ha], .int .i64 1] w fun e w' => e = .returned (.int .i64 (mkE h ln F : Nat)) ∧ Below w.heap.size w w' := by
  obtain ⟨V, hV⟩ : ∃ V, w.alloc (.cells #[.slice h.a0 h.n0 h.c0, .slice h.a1 h.n1 h.c1, .bool h.b, .slice h.a2 h.n2 h.c2, .int .i64 ep, .slice la ln lc, .int .i64 su, .slice fa fn fc, .int .i64 ha] 46) = V := ⟨_, rfl⟩
  have B0 : Hid (Below w.heap.size w V) := by unfold Hid; rw [← hV]; exact (Below.refl _ _).alloc (Nat.le_refl _) _
  have X0 : Hid (Box V w.heap.size 46 #[.slice h.a0 h.n0 h.c0, .slice h.a1 h.n1 h.c1, .bool h.b, .slice h.a2 h.n2 h.c2, .int .i64 ep, .slice la ln lc, .int .i64 su, .slice fa fn fc, .int .i64 ha]) := by unfold Hid; rw [← hV]; exact Box.new _ _ _
  have hmk := markN_le f0 f1 f2
  have C1 := c_heldDisk h V (r.below B0.out) f0 f1 f2
  have C2 : Hid (∀ W, Below w.heap.size w W → Calls Tryz.prog 108 #[.slice la ln lc, .int .i64 (markN h : Nat)] W fun e w' => e = .returned (.int .i64 (markN h + ln * 10 : Nat)) ∧ Below W.heap.size W w') := fun W hW => c_heldQ2 la ln lc (markN h) W (rl.below hW) (by omega) (by omega) (by omega)
  have C3 : Hid (∀ (x : Int) W, x = ((mkF h ln : Nat) : Int) → Below w.heap.size w W → Calls Tryz.prog 109 #[.slice fa fn fc, .int .i64 x] W fun e w' => e = .returned (.int .i64 (fEnd (mkF h ln) F : Nat)) ∧ Below W.heap.size W w') := fun x W hx hW => by subst hx; exact c_heldF fa fn fc (mkF h ln) F W (rf.below hW) (by unfold mkF; omega) (by unfold mkF; omega) f4 f5
  clear r rl rf f5
  obtain ⟨x0, x1, x2, x3, x4, x5, x6, x7, x8⟩ := box9 X0.out
  go_enter Tryz.func43, Tryz.ntmps43
  go_wp2_with fail
  refine C1.mono ?_
  rintro e w1 ⟨rfl, hb⟩
  have B1 : Hid (Below w.heap.size w w1) := B0.out.trans (hb.mono B0.out.size)
  have X1 : Hid (Box w1 w.heap.size 46 #[.slice h.a0 h.n0 h.c0, .slice h.a1 h.n1 h.c1, .bool h.b, .slice h.a2 h.n2 h.c2, .int .i64 ep, .slice la ln lc, .int .i64 su, .slice fa fn fc, .int .i64 ha]) := X0.out.belowS hb
  clear hb X0 B0 C1 hV x0 x1 x2 x3 x4 x5 x6 x7 x8
  obtain ⟨x0, x1, x2, x3, x4, x5, x6, x7, x8⟩ := box9 X1.out
  have c1 : ¬ ((markN h : Nat) : Int) < 0 := by omega
  go_wp2_with fail
  refine (C2.out w1 B1.out).mono ?_
  rintro e w2 ⟨rfl, hb⟩
  have B2 : Hid (Below w.heap.size w w2) := B1.out.trans (hb.mono B1.out.size)
  have X2 : Hid (Box w2 w.heap.size 46 #[.slice h.a0 h.n0 h.c0, .slice h.a1 h.n1 h.c1, .bool h.b, .slice h.a2 h.n2 h.c2, .int .i64 ep, .slice la ln lc, .int .i64 su, .slice fa fn fc, .int .i64 ha]) := X1.out.belowS hb
  clear hb X1 B1 C2 x0 x1 x2 x3 x4 x5 x6 x7 x8
  obtain ⟨x0, x1, x2, x3, x4, x5, x6, x7, x8⟩ := box9 X2.out
  go_wp2_with fail
  refine (C3.out _ w2 (by unfold mkF; omega) B2.out).mono ?_
  rintro e w3 ⟨rfl, hb⟩
  have B3 : Hid (Below w.heap.size w w3) := B2.out.trans (hb.mono B2.out.size)
  obtain ⟨z, hz⟩ : ∃ z, z = fEnd (mkF h ln) F := ⟨_, rfl⟩
  rw [← hz]
  have HZ : Hid ((z : Nat) = mkE h ln F) := hz
  clear hb X2 B2 C3 hz x0 x1 x2 x3 x4 x5 x6 x7 x8
  go_wp2
  go_ret
  exact ⟨ret_int2 (by rw [HZ.out]), B3.out⟩

end Go.Proofs.YtkpopingbbaomaaGreatDoor
