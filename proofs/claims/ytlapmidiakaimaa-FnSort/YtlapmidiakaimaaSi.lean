/-
  SortRows: the program.
-/
import Derived.Test.YtlapmidiakaimaaSh
import Derived.Test.YtlapmidiakaimaaSd
import Derived.Deep.RegionHeld3
import Derived.Laws.EntriesVeiled
namespace Go.Proofs.Ytlapmidiakaimaa
open Go Go.RowKit
attribute [local go_sem ↓] Go.wp_at_zero Go.wp_at_succ

set_option linter.unusedVariables false
set_option linter.unusedSimpArgs false
def rowK (r : RW) : Bool := rowB r.i (r.a, r.b, r.t) (r.p, r.q, r.z)
/-- Rows that are right, and rise by their Ids from the least on. -/
def areB : Int → List RW → Bool
  | _, [] => true
  | l, r :: rs => rowK r && (decide (l ≤ r.i) && areB (r.i + 1) rs)
def rowsB (vs : List RW) : Bool := areB 0 vs
theorem areB_drop (l : Int) (vs : List RW) (k : Nat) (h : k < vs.length) : areB l (vs.drop k) = (rowK (vs.getD k zeroR) && (decide (l ≤ (vs.getD k zeroR).i) && areB ((vs.getD k zeroR).i + 1) (vs.drop (k + 1)))) := by
  rw [List.drop_eq_getElem_cons h, List.getD_eq_getElem?_getD, List.getElem?_eq_getElem h]
  rfl
def fltR (n : Nat) (vs : List RW) : Int := if 4096 < n then 2 else if 100 < n then 6 else if rowsB vs then 0 else 1
def sortC (n : Nat) (vs : List RW) (c : Int) : Int := if fltR n vs = 0 then (if inB c 0 2 then 0 else 4) else fltR n vs
def ordF (c : Int) (d : Bool) (x y : RW) : Int := if d then cU c y x else cU c x y
def sortO (n : Nat) (vs : List RW) (c : Int) (d : Bool) : List RW := if sortC n vs c = 0 then sortR (ordF c d) vs else []
def sortN (n : Nat) (vs : List RW) (c : Int) : Nat := if sortC n vs c = 0 then n else 0
theorem rowK_id {r : RW} (h : rowK r = true) : 0 ≤ r.i ∧ r.i ≤ 1000 := by
  unfold rowK rowB at h
  simp [inB] at h
  omega
set_option maxRecDepth 100000 in
set_option maxHeartbeats 8000000 in
theorem c_byUp (c : Int) (w : World) : Calls Try.prog 53 #[.int .i64 c, .bool false] w fun e w' => (e = .returned (.func (Fn.func 79) #[] #[.pointer (some ⟨w.heap.size, 0, none⟩)]) ∧ w'.cell? ⟨w.heap.size, 0, none⟩ = some (.int .i64 c)) ∧ Below w.heap.size w w' := by
  obtain ⟨V, hV⟩ : ∃ V, w.alloc (.cells #[.int .i64 c] 3) = V := ⟨_, rfl⟩
  have BV : Hid (Below w.heap.size w V) := by unfold Hid; rw [← hV]; exact (Below.refl _ _).alloc (Nat.le_refl _) _
  have X : Hid (Box V w.heap.size 3 #[.int .i64 c]) := by unfold Hid; rw [← hV]; exact Box.new _ _ _
  have lV : w.heap.size < V.heap.size := X.out.lt
  go_enter Try.func53, Try.ntmps53
  go_wp2
  go_ret
  exact ⟨⟨rfl, (X.out.alloc _).cell 0⟩, BV.out.alloc (by omega) _⟩
set_option maxRecDepth 100000 in
set_option maxHeartbeats 8000000 in
theorem c_byDown (c : Int) (w : World) : Calls Try.prog 53 #[.int .i64 c, .bool true] w fun e w' => (e = .returned (.func (Fn.func 83) #[] #[.pointer (some ⟨w.heap.size + 1, 0, none⟩)]) ∧ w'.cell? ⟨w.heap.size, 0, none⟩ = some (.int .i64 c) ∧ w'.cell? ⟨w.heap.size + 1, 0, none⟩ = some (.func (Fn.func 79) #[] #[.pointer (some ⟨w.heap.size, 0, none⟩)])) ∧ Below w.heap.size w w' := by
  obtain ⟨V, hV⟩ : ∃ V, w.alloc (.cells #[.int .i64 c] 3) = V := ⟨_, rfl⟩
  have BV : Hid (Below w.heap.size w V) := by unfold Hid; rw [← hV]; exact (Below.refl _ _).alloc (Nat.le_refl _) _
  have X : Hid (Box V w.heap.size 3 #[.int .i64 c]) := by unfold Hid; rw [← hV]; exact Box.new _ _ _
  have lV : V.heap.size = w.heap.size + 1 := by rw [← hV]; simp
  have HL : Hid (V.heap.size = w.heap.size + 1) := lV
  clear lV
  go_enter Try.func53, Try.ntmps53
  go_wp2
  go_ret
  exact ⟨⟨by rw [← HL.out]; rfl, (X.out.alloc _).cell 0, by rw [← HL.out]; exact (Box.new _ _ _).cell 0⟩, BV.out.alloc (by have := HL.out; omega) _⟩
theorem c_isRowR (r : RW) (w : World) (h : r.t.size ≤ maxLen ∧ r.z.size ≤ maxLen) : Calls Try.prog 43 #[.agg (cR r).toArray] w fun e w' => e = .returned (.bool (rowK r)) ∧ Below w.heap.size w w' := c_isRow r.i (r.a, r.b, r.t) (r.p, r.q, r.z) w h.1 h.2
theorem c_lRowR (r : RW) (w : World) (h : r.t.size ≤ maxLen ∧ r.z.size ≤ maxLen) : Calls Try.prog 38 #[.agg (cR r).toArray] w fun e w' => e = .returned (.bool (rowK r)) ∧ Below w.heap.size w w' := c_lRow r.i (r.a, r.b, r.t) (r.p, r.q, r.z) w h.1 h.2
set_option maxRecDepth 100000 in
set_option maxHeartbeats 8000000 in
theorem c_areRows (a : Option Addr) (n c : Nat) (vs : List RW) (w : World) (hr : RdR w a n vs) (hn : n ≤ 4096) (hs : ∀ v ∈ vs, v.t.size ≤ maxLen ∧ v.z.size ≤ maxLen) :
    Calls Try.prog 77 #[.slice a n c] w fun e w' => e = .returned (.bool (rowsB vs)) ∧ Below w.heap.size w w' := by
  obtain ⟨hl, hcs⟩ := hr
  have HS : Hid (∀ v ∈ vs, v.t.size ≤ maxLen ∧ v.z.size ≤ maxLen) := hs
  obtain ⟨R, hR⟩ : ∃ R, rowsB vs = R := ⟨_, rfl⟩
  have HR : Hid (areB 0 vs = R) := hR
  rw [hR]
  clear hs hR
  go_enter Try.func77, Try.ntmps77
  go_wp2
  go_loopw [3, 8] (fun l i wr => ∃ (k : Nat) (x : Int), k ≤ n ∧ i = .int .i64 k ∧ l = .int .i64 x ∧ Hid (areB x (vs.drop k) = R) ∧ Below w.heap.size w wr) (fun _ i _ => n - (intOf i).toNat)
  case atStart => exact ⟨0, 0, by omega, rfl, rfl, by unfold Hid; rw [List.drop_zero]; exact HR.out, Below.refl _ _⟩
  case round =>
    obtain ⟨k, x, hk, rfl, rfl, HE, hb⟩ := hrel
    by_cases hlt : k < n
    · obtain ⟨b, off, rfl, hbl, hc⟩ := hcs (by omega)
      obtain ⟨⟨vi, va, vb, vt, vp, vq, vz⟩, hv⟩ : ∃ v, v = vs.getD k zeroR := ⟨_, rfl⟩
      obtain ⟨d0, d1, d2, d3, d4, d5, d6⟩ := RdR.at hc hlt hv
      dsimp only at d0 d1 d2 d3 d4 d5 d6
      have e0 : wr.cell? ⟨b, off + k * 7, none⟩ = some (.int .i64 vi) := by rw [hb.cell (p := ⟨b, off + k * 7, none⟩) hbl, d0]
      have e1 : wr.cell? ⟨b, off + k * 7 + 1, none⟩ = some (.int .i64 va) := by rw [hb.cell (p := ⟨b, off + k * 7 + 1, none⟩) hbl, d1]
      have e2 : wr.cell? ⟨b, off + k * 7 + 2, none⟩ = some (.int .i64 vb) := by rw [hb.cell (p := ⟨b, off + k * 7 + 2, none⟩) hbl, d2]
      have e3 : wr.cell? ⟨b, off + k * 7 + 3, none⟩ = some (.string vt) := by rw [hb.cell (p := ⟨b, off + k * 7 + 3, none⟩) hbl, d3]
      have e4 : wr.cell? ⟨b, off + k * 7 + 4, none⟩ = some (.int .i64 vp) := by rw [hb.cell (p := ⟨b, off + k * 7 + 4, none⟩) hbl, d4]
      have e5 : wr.cell? ⟨b, off + k * 7 + 5, none⟩ = some (.int .i64 vq) := by rw [hb.cell (p := ⟨b, off + k * 7 + 5, none⟩) hbl, d5]
      have e6 : wr.cell? ⟨b, off + k * 7 + 6, none⟩ = some (.string vz) := by rw [hb.cell (p := ⟨b, off + k * 7 + 6, none⟩) hbl, d6]
      have hvs : vt.size ≤ maxLen ∧ vz.size ≤ maxLen := by
        have := getD_ofX (d := zeroR) HS.out (show k < vs.length by omega)
        rw [← hv] at this
        exact this
      have HD : Hid (R = (rowK ⟨vi, va, vb, vt, vp, vq, vz⟩ && (decide (x ≤ vi) && areB (vi + 1) (vs.drop (k + 1))))) := by unfold Hid; rw [← HE.out, areB_drop x vs k (by omega), ← hv]
      obtain ⟨V, hV⟩ : ∃ W, wr.alloc (.cells #[.int .i64 vi, .int .i64 va, .int .i64 vb, .string vt, .int .i64 vp, .int .i64 vq, .string vz] 35) = W := ⟨_, rfl⟩
      have bV : Below wr.heap.size wr V := by rw [← hV]; exact (Below.refl _ _).alloc (Nat.le_refl _) _
      have BV : Hid (Below w.heap.size w V) := hb.trans (bV.mono hb.size)
      have XV : Hid (Box V wr.heap.size 35 #[.int .i64 vi, .int .i64 va, .int .i64 vb, .string vt, .int .i64 vp, .int .i64 vq, .string vz]) := by unfold Hid; rw [← hV]; exact Box.new _ _ _
      have C := c_isRowR ⟨vi, va, vb, vt, vp, vq, vz⟩ V hvs
      obtain ⟨rk, hrk⟩ : ∃ b, rowK ⟨vi, va, vb, vt, vp, vq, vz⟩ = b := ⟨_, rfl⟩
      have HK : Hid (rowK ⟨vi, va, vb, vt, vp, vq, vz⟩ = rk) := hrk
      rw [hrk] at C HD
      obtain ⟨x0, x1, x2, x3, x4, x5, x6⟩ := box7 XV.out
      clear hc hcs hv d0 d1 d2 d3 d4 d5 d6 bV hb HE hvs hrk
      go_wp2_with fail
      refine C.mono ?_
      rintro e w1 ⟨rfl, hb1⟩
      have B1 : Hid (Below w.heap.size w w1) := BV.out.trans (hb1.mono BV.out.size)
      have X1 : Hid (Box w1 wr.heap.size 35 #[.int .i64 vi, .int .i64 va, .int .i64 vb, .string vt, .int .i64 vp, .int .i64 vq, .string vz]) := XV.out.belowS hb1
      clear C hb1 hV e0 e1 e2 e3 e4 e5 e6 x0 x1 x2 x3 x4 x5 x6 BV XV
      obtain ⟨x0, x1, x2, x3, x4, x5, x6⟩ := box7 X1.out
      cases rk
      · have E : Hid (R = false) := by unfold Hid; rw [HD.out]; rfl
        clear HD HK
        go_wp2
        go_ret
        exact ⟨by rw [E.out]; rfl, B1.out⟩
      · have hid := rowK_id HK.out
        dsimp only at hid
        by_cases hle : vi < x
        · have E : Hid (R = false) := by unfold Hid; rw [HD.out, decide_eq_false (by omega)]; rfl
          clear HD HK
          go_wp2
          go_ret
          exact ⟨by rw [E.out]; rfl, B1.out⟩
        · have E : Hid (areB (vi + 1) (vs.drop (k + 1)) = R) := by unfold Hid; rw [HD.out, decide_eq_true (show x ≤ vi by omega)]; rfl
          clear HD HK
          go_wp2
          go_roundw
          case rel => exact ⟨k + 1, vi + 1, by omega, by go_num, rfl, E, B1.out⟩
          case measure => simp [intOf]; omega
    · have e : k = n := by omega
      subst e
      have E : Hid (R = true) := by unfold Hid; rw [← HE.out, List.drop_eq_nil_of_le (by omega)]; rfl
      clear HE
      go_wp2
      go_ret
      exact ⟨by rw [E.out]; rfl, hb⟩
set_option maxRecDepth 100000 in
set_option maxHeartbeats 8000000 in
theorem c_fault (a : Option Addr) (n c : Nat) (vs : List RW) (w : World) (hr : RdR w a n vs) (hn : n ≤ 1048576) (hs : ∀ v ∈ vs, v.t.size ≤ maxLen ∧ v.z.size ≤ maxLen) :
    Calls Try.prog 51 #[.slice a n c] w fun e w' => e = .returned (.int .i64 (fltR n vs)) ∧ Below w.heap.size w w' := by
  by_cases h1 : 4096 < n
  · have E : Hid (fltR n vs = 2) := by unfold Hid fltR; rw [if_pos h1]
    clear hr hs
    go_enter Try.func51, Try.ntmps51
    go_wp2
    go_ret
    exact ⟨by rw [E.out]; rfl, Below.refl _ _⟩
  by_cases h2 : 100 < n
  · have E : Hid (fltR n vs = 6) := by unfold Hid fltR; rw [if_neg h1, if_pos h2]
    clear hr hs
    go_enter Try.func51, Try.ntmps51
    go_wp2
    go_ret
    exact ⟨by rw [E.out]; rfl, Below.refl _ _⟩
  have C := c_areRows a n c vs w hr (by omega) hs
  obtain ⟨b, hb⟩ : ∃ b, rowsB vs = b := ⟨_, rfl⟩
  have E : Hid (fltR n vs = if b then 0 else 1) := by unfold Hid fltR; rw [if_neg h1, if_neg h2, hb]
  rw [hb] at C
  clear hr hs hb
  go_enter Try.func51, Try.ntmps51
  go_wp2_with fail
  refine C.mono ?_
  rintro e w1 ⟨rfl, hb⟩
  clear C
  cases b
  · go_wp2
    go_ret
    exact ⟨by rw [E.out]; rfl, hb⟩
  · go_wp2
    go_ret
    exact ⟨by rw [E.out]; rfl, hb⟩
/-- What SortRows answers: a list that the call owns, and a code. -/
def AnsR (base : Nat) (n : Nat) (vs : List RW) (c : Int) (d : Bool) (e : Ending) (w' : World) : Prop :=
  ∃ (a' : Option Addr) (c' : Nat), e = .returned (.tuple #[.slice a' (sortN n vs c) c', .int .i64 (sortC n vs c)]) ∧ w'.ownsRow base 35 7 (.slice a' (sortN n vs c) c') (sortN n vs c) (cellsR (sortO n vs c d))
theorem AnsR.no {base n : Nat} {vs : List RW} {c : Int} {d : Bool} {w' : World} {k : Int} (h : sortC n vs c = k) (hk : k ≠ 0) : AnsR base n vs c d (.returned (.tuple #[.slice none 0 0, .int .i64 k])) w' := by
  have e1 : sortN n vs c = 0 := by unfold sortN; rw [if_neg (by rw [h]; exact hk)]
  have e2 : sortO n vs c d = [] := by unfold sortO; rw [if_neg (by rw [h]; exact hk)]
  exact ⟨none, 0, by rw [e1, h], by rw [e1, e2]; exact World.ownsRow_nil w' _ _ _⟩
theorem AnsR.yes {base n : Nat} {vs : List RW} {c : Int} {d : Bool} {w' : World} {a' : Option Addr} {c' : Nat} (h : sortC n vs c = 0) (ho : w'.ownsRow base 35 7 (.slice a' n c') n (cellsR (sortR (ordF c d) vs))) : AnsR base n vs c d (.returned (.tuple #[.slice a' n c', .int .i64 0])) w' := by
  have e1 : sortN n vs c = n := by unfold sortN; rw [if_pos h]
  have e2 : sortO n vs c d = sortR (ordF c d) vs := by unfold sortO; rw [if_pos h]
  exact ⟨a', c', by rw [e1, h], by rw [e1, e2]; exact ho⟩
set_option maxRecDepth 100000 in
set_option maxHeartbeats 8000000 in
theorem c_implSR (a : Option Addr) (n cp : Nat) (vs : List RW) (c : Int) (d : Bool) (w : World) (hr : RdR w a n vs) (hn : n ≤ 1048576) (hs : ∀ v ∈ vs, v.t.size ≤ maxLen ∧ v.z.size ≤ maxLen) :
    Calls Try.prog 16 #[.slice a n cp, .int .i64 c, .bool d] w fun e w' => AnsR w.heap.size n vs c d e w' ∧ Below w.heap.size w w' := by
  have C := c_fault a n cp vs w hr hn hs
  by_cases h0 : fltR n vs = 0
  · rw [h0] at C
    have hn1 : n ≤ 100 := by
      unfold fltR at h0
      split at h0
      · cases h0
      · split at h0
        · cases h0
        · omega
    obtain ⟨p, hp⟩ : ∃ p, inB c 0 2 = p := ⟨_, rfl⟩
    have C2 : Hid (∀ W, Calls Try.prog 42 #[.int .i64 c] W fun e w' => e = .returned (.bool p) ∧ w' = W) := fun W => by rw [← hp]; exact c_isCol c W
    have HP : Hid (inB c 0 2 = p) := hp
    have HR : Hid (RdR w a n vs) := hr
    have H0 : Hid (fltR n vs = 0) := h0
    clear hr hs hp h0
    go_enter Try.func16, Try.ntmps16
    go_wp2_with fail
    refine C.mono ?_
    rintro e w1 ⟨rfl, hb⟩
    have D2 := C2.out w1
    clear C C2
    go_wp2_with fail
    refine D2.mono ?_
    rintro e w2 ⟨rfl, hw⟩
    rw [hw]
    clear D2 hw
    cases p
    · go_wp2
      go_ret2
      exact ⟨AnsR.no (by unfold sortC; rw [if_pos H0.out, HP.out]; rfl) (by decide), hb⟩
    · have HC : Hid (sortC n vs c = 0) := by unfold Hid sortC; rw [if_pos H0.out, HP.out]; rfl
      cases d
      · have C3 := c_byUp c w1
        go_wp2_with fail
        refine C3.mono ?_
        rintro e w3 ⟨⟨rfl, hc3⟩, hb3⟩
        have b3 : Below w.heap.size w w3 := hb.trans (hb3.mono hb.size)
        have C4 := c_sorted1 (ordF c false) a n cp vs w1.heap.size w3 (HR.out.below b3) (by omega) (fun W x y hW => c_up c x.i x.a x.b x.t x.p x.q x.z y.i y.a y.b y.t y.p y.q y.z w1.heap.size W HP.out (far6 hW hc3))
        clear C3
        go_wp2_with fail
        refine C4.mono ?_
        rintro e w4 ⟨⟨a4, c4, rfl, o4⟩, hb4⟩
        have B4 : Hid (Below w.heap.size w w4) := b3.trans (hb4.mono b3.size)
        have O4 : Hid (w4.ownsRow w.heap.size 35 7 (.slice a4 n c4) n (cellsR (sortR (ordF c false) vs))) := World.ownsRow.mono o4 b3.size
        clear C4 hb4 b3 hb3 hc3 hb o4
        go_wp2
        go_ret2
        exact ⟨AnsR.yes HC.out O4.out, B4.out⟩
      · have C3 := c_byDown c w1
        go_wp2_with fail
        refine C3.mono ?_
        rintro e w3 ⟨⟨rfl, hc3, hu3⟩, hb3⟩
        have b3 : Below w.heap.size w w3 := hb.trans (hb3.mono hb.size)
        have C4 := c_sorted2 (ordF c true) a n cp vs (w1.heap.size + 1) w3 (HR.out.below b3) (by omega) (fun W x y hW => c_down c x.i x.a x.b x.t x.p x.q x.z y.i y.a y.b y.t y.p y.q y.z w1.heap.size (w1.heap.size + 1) W HP.out (far6 hW hc3) (far6 hW hu3))
        clear C3
        go_wp2_with fail
        refine C4.mono ?_
        rintro e w4 ⟨⟨a4, c4, rfl, o4⟩, hb4⟩
        have B4 : Hid (Below w.heap.size w w4) := b3.trans (hb4.mono b3.size)
        have O4 : Hid (w4.ownsRow w.heap.size 35 7 (.slice a4 n c4) n (cellsR (sortR (ordF c true) vs))) := World.ownsRow.mono o4 b3.size
        clear C4 hb4 b3 hb3 hc3 hu3 hb o4
        go_wp2
        go_ret2
        exact ⟨AnsR.yes HC.out O4.out, B4.out⟩
  · obtain ⟨k, hk⟩ : ∃ k, fltR n vs = k := ⟨_, rfl⟩
    rw [hk] at C
    have HE : Hid (sortC n vs c = k ∧ k ≠ 0) := by rw [hk] at h0; exact ⟨by unfold sortC; rw [if_neg (by rw [hk]; exact h0), hk], h0⟩
    have nk : (k != 0) = true := by simp; exact HE.out.2
    clear hr hs h0 hk
    go_enter Try.func16, Try.ntmps16
    go_wp2_with fail
    refine C.mono ?_
    rintro e w1 ⟨rfl, hb⟩
    clear C
    go_wp2
    go_ret2
    exact ⟨AnsR.no HE.out.1 HE.out.2, hb⟩

end Go.Proofs.Ytlapmidiakaimaa
