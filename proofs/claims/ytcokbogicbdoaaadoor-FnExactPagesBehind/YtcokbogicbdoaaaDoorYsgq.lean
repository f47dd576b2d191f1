/-
  Right stores: the walk of the program's StoreOK.
-/
import Derived.Test.YtcokbogicbdoaaaDoorYsaq
import Derived.Test.YtcokbogicbdoaaaDoorZzak
import Derived.Test.YtcokbogicbdoaaaDoorZzal
import Derived.Test.YtcokbogicbdoaaaDoorOiq
namespace Go.Proofs.YtcokbogicbdoaaaDoor
open Go Go.RowKit
attribute [local go_sem ↓] Go.wp_at_zero Go.wp_at_succ

/-- A right store. -/
def okST (D : DD) (n0 : Nat) (ep : Int) (ln : Nat) (L : List DR) (su : Int) (fn : Nat) (F : List FF) (ha : Int) : Bool := okD D && (decide (n0 = 69) && (decide (1 ≤ ep) && (decide (ep ≤ 60) && (decide (ln ≤ 60) && (inPl 0 L && (ofEp ep 0 L && (decide (0 ≤ su) && (decide (su ≤ (ln : Int)) && ((decide (fn ≤ 3) && arF (ln : Int) [] F) && (decide (0 ≤ ha) && (decide (ha < 3) && (hasPg (rdS D.S D.C) su))))))))))))
theorem box9 {w : World} {g : Nat} {t : TypeId} {v0 v1 v2 v3 v4 v5 v6 v7 v8 : Value} (h : Box w g t #[v0, v1, v2, v3, v4, v5, v6, v7, v8]) : w.cell? ⟨g, 0, none⟩ = some v0 ∧ w.cell? ⟨g, 1, none⟩ = some v1 ∧ w.cell? ⟨g, 2, none⟩ = some v2 ∧ w.cell? ⟨g, 3, none⟩ = some v3 ∧ w.cell? ⟨g, 4, none⟩ = some v4 ∧ w.cell? ⟨g, 5, none⟩ = some v5 ∧ w.cell? ⟨g, 6, none⟩ = some v6 ∧ w.cell? ⟨g, 7, none⟩ = some v7 ∧ w.cell? ⟨g, 8, none⟩ = some v8 :=
  ⟨h.cell 0, h.cell 1, h.cell 2, h.cell 3, h.cell 4, h.cell 5, h.cell 6, h.cell 7, h.cell 8⟩
set_option maxRecDepth 100000 in
set_option maxHeartbeats 4000000 in
theorem c_implST (h : HD) (D : DD) (ep : Int) (la : Option Addr) (ln lc : Nat) (L : List DR) (su : Int) (fa : Option Addr) (fn fc : Nat) (F : List FF) (ha : Int) (w : World) (r : RdD w h D) (hf : Fit D) (rl : RdQ w la ln L) (hln : ln ≤ 1048576) (hls : ∀ v ∈ L, v.b.size ≤ maxLen ∧ v.a.size ≤ maxLen) (rf : RdF w fa fn F) (hfn : fn ≤ 1048576) (hfs : ∀ i, i < fn → G.FitG (F.getD i zeroF).D) (ht : TabH w) :
    Calls Tryd.prog 11 #[.agg #[.slice h.a0 h.n0 h.c0, .slice h.a1 h.n1 h.c1, .bool h.b, .slice h.a2 h.n2 h.c2, .int .i64 ep, .slice la ln lc, .int .i64 su, .slice fa fn fc, .int .i64 ha]] w fun e w' => e = .returned (.bool (okST D h.n0 ep ln L su fn F ha)) ∧ Below w.heap.size w w' := by
  obtain ⟨V, hV⟩ : ∃ V, w.alloc (.cells #[.slice h.a0 h.n0 h.c0, .slice h.a1 h.n1 h.c1, .bool h.b, .slice h.a2 h.n2 h.c2, .int .i64 ep, .slice la ln lc, .int .i64 su, .slice fa fn fc, .int .i64 ha] 40) = V := ⟨_, rfl⟩
  have B0 : Hid (Below w.heap.size w V) := by unfold Hid; rw [← hV]; exact (Below.refl _ _).alloc (Nat.le_refl _) _
  have X0 : Hid (Box V w.heap.size 40 #[.slice h.a0 h.n0 h.c0, .slice h.a1 h.n1 h.c1, .bool h.b, .slice h.a2 h.n2 h.c2, .int .i64 ep, .slice la ln lc, .int .i64 su, .slice fa fn fc, .int .i64 ha]) := by unfold Hid; rw [← hV]; exact Box.new _ _ _
  have C1 : Hid (∀ W, Below w.heap.size w W → Calls Tryd.prog 30 #[.agg #[.slice h.a0 h.n0 h.c0, .slice h.a1 h.n1 h.c1, .bool h.b, .slice h.a2 h.n2 h.c2]] W fun e w' => e = .returned (.bool (okD D)) ∧ Below W.heap.size W w') := fun W hW => c_implOK h D W (r.below hW) hf
  have C2 : Hid (ln ≤ 60 → ∀ W, Below w.heap.size w W → Calls Tryd.prog 31 #[.slice la ln lc] W fun e w' => e = .returned (.bool (inPl 0 L)) ∧ Below W.heap.size W w') := fun h60 W hW => c_inPlace la ln lc L W (rl.below hW) (by omega) hls
  have C3 : Hid (ln ≤ 60 → ∀ W, Below w.heap.size w W → Calls Tryd.prog 32 #[.slice la ln lc, .int .i64 ep] W fun e w' => e = .returned (.bool (ofEp ep 0 L)) ∧ Below W.heap.size W w') := fun h60 W hW => c_ofEpochs la ln lc L ep W (rl.below hW) (by omega)
  have C4 : Hid (∀ W, Below w.heap.size w W → Calls Tryd.prog 33 #[.slice fa fn fc, .int .i64 (ln : Int)] W fun e w' => e = .returned (.bool (decide (fn ≤ 3) && arF (ln : Int) [] F)) ∧ Below W.heap.size W w') := fun W hW => c_areFrames fa fn fc F ln W (rf.below hW) hfn hfs
  have C5 : Hid (okD D = true → h.n0 = 69 → ∀ W, Below w.heap.size w W → Calls Tryd.prog 34 #[.agg #[.slice h.a0 h.n0 h.c0, .slice h.a1 h.n1 h.c1, .bool h.b, .slice h.a2 h.n2 h.c2], .int .i64 su] W fun e w' => e = .returned (.bool (hasPg (rdS D.S D.C) su)) ∧ Below W.heap.size W w') := fun hok h69 W hW => c_hasPages h D su W (r.below hW) hok (by omega) (ht.below hW)
  clear r hf rl hls rf hfs ht
  obtain ⟨x0, x1, x2, x3, x4, x5, x6, x7, x8⟩ := box9 X0.out
  go_enter Tryd.func11, Tryd.ntmps11
  go_wp2_with fail
  refine (C1.out V B0.out).mono ?_
  rintro e w1 ⟨rfl, hb⟩
  have B1 : Hid (Below w.heap.size w w1) := B0.out.trans (hb.mono B0.out.size)
  have X1 : Hid (Box w1 w.heap.size 40 #[.slice h.a0 h.n0 h.c0, .slice h.a1 h.n1 h.c1, .bool h.b, .slice h.a2 h.n2 h.c2, .int .i64 ep, .slice la ln lc, .int .i64 su, .slice fa fn fc, .int .i64 ha]) := X0.out.belowS hb
  clear hb X0 B0 x0 x1 x2 x3 x4 x5 x6 x7 x8
  obtain ⟨x0, x1, x2, x3, x4, x5, x6, x7, x8⟩ := box9 X1.out
  clear hV
  cases hok : okD D
  · have E : Hid (okST D h.n0 ep ln L su fn F ha = false) := by unfold Hid okST; rw [hok]; rfl
    clear hok
    go_wp2
    go_ret
    exact ⟨ret_bool E.out.symm, B1.out⟩
  have Khok : Hid (okD D = true) := hok
  clear hok
  by_cases h69 : h.n0 = 69
  case neg =>
    have E : Hid (okST D h.n0 ep ln L su fn F ha = false) := by unfold Hid okST; rw [Khok.out, decide_eq_false h69]; rfl
    have c1 : ((h.n0 : Int) != 69) = true := by simp; omega
    go_wp2
    go_ret
    exact ⟨ret_bool E.out.symm, B1.out⟩
  have Kh69 : Hid (decide (h.n0 = 69) = true) := decide_eq_true h69
  have c1 : ((h.n0 : Int) != 69) = false := by simp; omega
  have H69 : Hid (h.n0 = 69) := h69
  clear h69
  by_cases he1 : 1 ≤ ep
  case neg =>
    have E : Hid (okST D h.n0 ep ln L su fn F ha = false) := by unfold Hid okST; rw [Khok.out, Kh69.out, decide_eq_false he1]; rfl
    go_wp2
    go_ret
    exact ⟨ret_bool E.out.symm, B1.out⟩
  have Khe1 : Hid (decide (1 ≤ ep) = true) := decide_eq_true he1
  by_cases he2 : ep ≤ 60
  case neg =>
    have E : Hid (okST D h.n0 ep ln L su fn F ha = false) := by unfold Hid okST; rw [Khok.out, Kh69.out, Khe1.out, decide_eq_false he2]; rfl
    go_wp2
    go_ret
    exact ⟨ret_bool E.out.symm, B1.out⟩
  have Khe2 : Hid (decide (ep ≤ 60) = true) := decide_eq_true he2
  by_cases hl : ln ≤ 60
  case neg =>
    have E : Hid (okST D h.n0 ep ln L su fn F ha = false) := by unfold Hid okST; rw [Khok.out, Kh69.out, Khe1.out, Khe2.out, decide_eq_false hl]; rfl
    go_wp2
    go_ret
    exact ⟨ret_bool E.out.symm, B1.out⟩
  have Khl : Hid (decide (ln ≤ 60) = true) := decide_eq_true hl
  go_wp2_with fail
  refine (C2.out hl w1 B1.out).mono ?_
  rintro e w2 ⟨rfl, hb⟩
  have B2 : Hid (Below w.heap.size w w2) := B1.out.trans (hb.mono B1.out.size)
  have X2 : Hid (Box w2 w.heap.size 40 #[.slice h.a0 h.n0 h.c0, .slice h.a1 h.n1 h.c1, .bool h.b, .slice h.a2 h.n2 h.c2, .int .i64 ep, .slice la ln lc, .int .i64 su, .slice fa fn fc, .int .i64 ha]) := X1.out.belowS hb
  clear hb X1 B1 x0 x1 x2 x3 x4 x5 x6 x7 x8
  obtain ⟨x0, x1, x2, x3, x4, x5, x6, x7, x8⟩ := box9 X2.out
  cases hin : inPl 0 L
  · have E : Hid (okST D h.n0 ep ln L su fn F ha = false) := by unfold Hid okST; rw [Khok.out, Kh69.out, Khe1.out, Khe2.out, Khl.out, hin]; rfl
    clear hin
    go_wp2
    go_ret
    exact ⟨ret_bool E.out.symm, B2.out⟩
  have Khin : Hid (inPl 0 L = true) := hin
  clear hin
  go_wp2_with fail
  refine (C3.out hl w2 B2.out).mono ?_
  rintro e w3 ⟨rfl, hb⟩
  have B3 : Hid (Below w.heap.size w w3) := B2.out.trans (hb.mono B2.out.size)
  have X3 : Hid (Box w3 w.heap.size 40 #[.slice h.a0 h.n0 h.c0, .slice h.a1 h.n1 h.c1, .bool h.b, .slice h.a2 h.n2 h.c2, .int .i64 ep, .slice la ln lc, .int .i64 su, .slice fa fn fc, .int .i64 ha]) := X2.out.belowS hb
  clear hb X2 B2 x0 x1 x2 x3 x4 x5 x6 x7 x8
  obtain ⟨x0, x1, x2, x3, x4, x5, x6, x7, x8⟩ := box9 X3.out
  cases hof : ofEp ep 0 L
  · have E : Hid (okST D h.n0 ep ln L su fn F ha = false) := by unfold Hid okST; rw [Khok.out, Kh69.out, Khe1.out, Khe2.out, Khl.out, Khin.out, hof]; rfl
    clear hof
    go_wp2
    go_ret
    exact ⟨ret_bool E.out.symm, B3.out⟩
  have Khof : Hid (ofEp ep 0 L = true) := hof
  clear hof
  by_cases hs1 : 0 ≤ su
  case neg =>
    have E : Hid (okST D h.n0 ep ln L su fn F ha = false) := by unfold Hid okST; rw [Khok.out, Kh69.out, Khe1.out, Khe2.out, Khl.out, Khin.out, Khof.out, decide_eq_false hs1]; rfl
    go_wp2
    go_ret
    exact ⟨ret_bool E.out.symm, B3.out⟩
  have Khs1 : Hid (decide (0 ≤ su) = true) := decide_eq_true hs1
  by_cases hs2 : su ≤ (ln : Int)
  case neg =>
    have E : Hid (okST D h.n0 ep ln L su fn F ha = false) := by unfold Hid okST; rw [Khok.out, Kh69.out, Khe1.out, Khe2.out, Khl.out, Khin.out, Khof.out, Khs1.out, decide_eq_false hs2]; rfl
    go_wp2
    go_ret
    exact ⟨ret_bool E.out.symm, B3.out⟩
  have Khs2 : Hid (decide (su ≤ (ln : Int)) = true) := decide_eq_true hs2
  go_wp2_with fail
  refine (C4.out w3 B3.out).mono ?_
  rintro e w4 ⟨rfl, hb⟩
  have B4 : Hid (Below w.heap.size w w4) := B3.out.trans (hb.mono B3.out.size)
  have X4 : Hid (Box w4 w.heap.size 40 #[.slice h.a0 h.n0 h.c0, .slice h.a1 h.n1 h.c1, .bool h.b, .slice h.a2 h.n2 h.c2, .int .i64 ep, .slice la ln lc, .int .i64 su, .slice fa fn fc, .int .i64 ha]) := X3.out.belowS hb
  clear hb X3 B3 x0 x1 x2 x3 x4 x5 x6 x7 x8
  obtain ⟨x0, x1, x2, x3, x4, x5, x6, x7, x8⟩ := box9 X4.out
  cases hfr : (decide (fn ≤ 3) && arF (ln : Int) [] F)
  · have E : Hid (okST D h.n0 ep ln L su fn F ha = false) := by unfold Hid okST; rw [Khok.out, Kh69.out, Khe1.out, Khe2.out, Khl.out, Khin.out, Khof.out, Khs1.out, Khs2.out, hfr]; rfl
    clear hfr
    go_wp2
    go_ret
    exact ⟨ret_bool E.out.symm, B4.out⟩
  have Khfr : Hid ((decide (fn ≤ 3) && arF (ln : Int) [] F) = true) := hfr
  clear hfr
  by_cases ha1 : 0 ≤ ha
  case neg =>
    have E : Hid (okST D h.n0 ep ln L su fn F ha = false) := by unfold Hid okST; rw [Khok.out, Kh69.out, Khe1.out, Khe2.out, Khl.out, Khin.out, Khof.out, Khs1.out, Khs2.out, Khfr.out, decide_eq_false ha1]; rfl
    go_wp2
    go_ret
    exact ⟨ret_bool E.out.symm, B4.out⟩
  have Kha1 : Hid (decide (0 ≤ ha) = true) := decide_eq_true ha1
  by_cases ha2 : ha < 3
  case neg =>
    have E : Hid (okST D h.n0 ep ln L su fn F ha = false) := by unfold Hid okST; rw [Khok.out, Kh69.out, Khe1.out, Khe2.out, Khl.out, Khin.out, Khof.out, Khs1.out, Khs2.out, Khfr.out, Kha1.out, decide_eq_false ha2]; rfl
    go_wp2
    go_ret
    exact ⟨ret_bool E.out.symm, B4.out⟩
  have Kha2 : Hid (decide (ha < 3) = true) := decide_eq_true ha2
  go_wp2_with fail
  refine (C5.out Khok.out H69.out w4 B4.out).mono ?_
  rintro e w5 ⟨rfl, hb⟩
  have B5 : Hid (Below w.heap.size w w5) := B4.out.trans (hb.mono B4.out.size)
  have X5 : Hid (Box w5 w.heap.size 40 #[.slice h.a0 h.n0 h.c0, .slice h.a1 h.n1 h.c1, .bool h.b, .slice h.a2 h.n2 h.c2, .int .i64 ep, .slice la ln lc, .int .i64 su, .slice fa fn fc, .int .i64 ha]) := X4.out.belowS hb
  clear hb X4 B4 x0 x1 x2 x3 x4 x5 x6 x7 x8
  obtain ⟨x0, x1, x2, x3, x4, x5, x6, x7, x8⟩ := box9 X5.out
  have E : Hid (okST D h.n0 ep ln L su fn F ha = hasPg (rdS D.S D.C) su) := by unfold Hid okST; rw [Khok.out, Kh69.out, Khe1.out, Khe2.out, Khl.out, Khin.out, Khof.out, Khs1.out, Khs2.out, Khfr.out, Kha1.out, Kha2.out]; rfl
  go_wp2
  go_ret
  exact ⟨ret_bool E.out.symm, B5.out⟩

end Go.Proofs.YtcokbogicbdoaaaDoor
