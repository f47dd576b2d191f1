/-
  Drawn rows; rows that are the same.
-/
import Derived.Test.YtlapmidiakaimaaSq
import Derived.Test.YtlapmidiakaimaaNd
import Derived.Test.YtlapmidiakaimaaZa
import Derived.Test.YtlapmidiakaimaaSd
import Derived.Deep.RegionHeld3
import Derived.Deep.QuietTactic
import Derived.BigQuiet
namespace Go.Proofs.Ytlapmidiakaimaa
open Go Go.RowKit
attribute [local go_sem ↓] Go.wp_at_zero Go.wp_at_succ

set_option linter.unusedVariables false
set_option linter.unusedSimpArgs false
def rowEq (x y : RW) : Bool := x.i == y.i && ((x.a == y.a && (x.b == y.b && x.t.toList == y.t.toList)) && (x.p == y.p && (x.q == y.q && x.z.toList == y.z.toList)))
theorem rowEq_self (x : RW) : rowEq x x = true := by simp [rowEq]
theorem eqR2 (xi xa xb : Int) (xt : ByteArray) (xp xq : Int) (xz : ByteArray) (yi ya yb : Int) (yt : ByteArray) (yp yq : Int) (yz : ByteArray) (W : World) : (Op.equalIn 10000 35 (.agg #[.int .i64 xi, .int .i64 xa, .int .i64 xb, .string xt, .int .i64 xp, .int .i64 xq, .string xz]) (.agg #[.int .i64 yi, .int .i64 ya, .int .i64 yb, .string yt, .int .i64 yp, .int .i64 yq, .string yz])).run Try.prog W = .ok (rowEq ⟨xi, xa, xb, xt, xp, xq, xz⟩ ⟨yi, ya, yb, yt, yp, yq, yz⟩) W := by
  simp [go_sem]
  repeat' split
  all_goals simp_all [rowEq]
theorem own_inn {w w' : World} {base e size n B E : Nat} {v : Value} {xs : List Value} (h : w.ownsRow base e size v n xs) (hi : Inn B E w w') (hb : E ≤ base) : w'.ownsRow base e size v n xs := by
  refine own_same h fun g hg => ?_
  rcases h.2 with ⟨h1, _⟩ | ⟨g', cap, cur, h1, h2, h3, _⟩
  · rw [h1] at hg; cases hg
  · rw [h1] at hg
    have e' : g' = g := Option.some.inj hg
    subst e'
    exact hi.block g' (Array.getElem?_eq_some_iff.1 h3).1 (.inr (by omega))
theorem areB_snoc : ∀ (L : List RW) (l : Int) (x : RW), areB l L = true → (∀ r ∈ L, r.i < x.i) → l ≤ x.i → rowK x = true → areB l (L ++ [x]) = true
  | [], l, x, _, _, h2, h3 => by simp [areB, h2, h3]
  | r :: L, l, x, h, h1, h2, h3 => by
    simp only [areB, Bool.and_eq_true, decide_eq_true_eq, List.cons_append] at h ⊢
    refine ⟨h.1, h.2.1, areB_snoc L (r.i + 1) x h.2.2 (fun y hy => h1 y (by simp [hy])) ?_ h3⟩
    have := h1 r (by simp)
    omega
/-- Rows that were drawn: right ones, that rise below a bound. -/
structure RowsTo (k : Nat) (L : List RW) : Prop where
  are : rowsB L = true
  low : ∀ r ∈ L, r.i < (k : Int)
  len : L.length ≤ k
theorem RowsTo.skip {k : Nat} {L : List RW} (h : RowsTo k L) : RowsTo (k + 1) L := ⟨h.are, fun r hr => by have := h.low r hr; omega, by have := h.len; omega⟩
theorem RowsTo.add {k : Nat} {L : List RW} (h : RowsTo k L) {x : RW} (hx : x.i = (k : Int)) (hk : rowK x = true) : RowsTo (k + 1) (L ++ [x]) := by
  refine ⟨areB_snoc L 0 x h.are (fun r hr => by rw [hx]; exact h.low r hr) (by omega) hk, fun r hr => ?_, by have := h.len; simp; omega⟩
  rcases List.mem_append.1 hr with e | e
  · have := h.low r e; omega
  · rw [List.mem_singleton.1 e, hx]; omega
theorem valB_size {k n : Int} {t : ByteArray} (h : valB k n t = true) : t.size ≤ 10 := by
  unfold valB at h
  split at h
  · simp only [Bool.and_eq_true, List.isEmpty_iff] at h
    rw [nil_of_list h.2]; decide
  · split at h
    · simp only [Bool.and_eq_true, List.isEmpty_iff] at h
      rw [nil_of_list h.2]; decide
    · split at h
      · simp only [Bool.and_eq_true, wordB, decide_eq_true_eq] at h
        exact h.2.1
      · cases h
theorem rowK_parts {x : RW} (h : rowK x = true) : valB x.a x.b x.t = true ∧ valB x.p x.q x.z = true := by
  unfold rowK rowB at h
  simp only [Bool.and_eq_true] at h
  exact ⟨h.1.1.1.2, h.1.1.2⟩
theorem rowK_size {x : RW} (h : rowK x = true) : x.t.size ≤ maxLen ∧ x.z.size ≤ maxLen := by
  obtain ⟨a, b⟩ := rowK_parts h
  have := valB_size a
  have := valB_size b
  unfold maxLen
  omega
theorem areB_all : ∀ (L : List RW) (l : Int), areB l L = true → ∀ r ∈ L, rowK r = true
  | [], _, _, r, hr => absurd hr (by simp)
  | x :: L, l, h, r, hr => by
    simp only [areB, Bool.and_eq_true] at h
    rcases List.mem_cons.1 hr with e | e
    · rw [e]; exact h.1
    · exact areB_all L _ h.2.2 r e
theorem rowK_id2 {i j : Int} {u v : VV} (h : rowB i u v = true) (hj : 0 ≤ j ∧ j ≤ 1000) : rowK ⟨j, u.1, u.2.1, u.2.2, v.1, v.2.1, v.2.2⟩ = true := by
  unfold rowK
  unfold rowB at h ⊢
  simp only [Bool.and_eq_true] at h ⊢
  exact ⟨⟨⟨⟨by simp [inB]; omega, h.1.1.1.2⟩, h.1.1.2⟩, h.1.2⟩, h.2⟩
set_option maxRecDepth 100000 in
set_option maxHeartbeats 8000000 in
theorem c_rowList (w0 w : World) (g : Nat) (a : Option Addr) (n c : Nat) (zs : List Int) (h : Drw w0 w g a n c 0 zs) :
    Calls Try.prog 56 #[.pointer (some ⟨g, 0, none⟩)] w fun e w' => (∃ (a' : Option Addr) (c' : Nat) (L : List RW), e = .returned (.slice a' L.length c') ∧ w'.ownsRow w.heap.size 35 7 (.slice a' L.length c') L.length (cellsR L) ∧ RowsTo 6 L) ∧ Inn g (g + 1) w w' := by
  obtain ⟨i0, qi0, qz0, qz1, qz2⟩ := info_parts infoR
  have hi0 : Hid (_) := qi0
  have hz0 : Hid (_) := qz0
  have hz1 : Hid (_) := qz1
  have hz2 : Hid (_) := qz2
  have lg : g < w.heap.size := h.src.lt
  have lb : w0.heap.size ≤ g := h.behind
  have H : Hid (Drw w0 w g a n c 0 zs) := h
  clear h qi0 qz0 qz1 qz2
  go_enter Try.func56, Try.ntmps56
  go_wp2
  go_loopw [3, 4] (fun o i wr => ∃ (k : Nat) (a' : Option Addr) (c' : Nat) (L : List RW), k ≤ 6 ∧ i = .int .i64 k ∧ o = .slice a' L.length c' ∧ Hid (wr.ownsRow w.heap.size 35 7 (.slice a' L.length c') L.length (cellsR L)) ∧ Hid (RowsTo k L) ∧ Hid (Drw w0 wr g a n c (13 * k) zs) ∧ Hid (Inn g (g + 1) w wr)) (fun _ i _ => 6 - (intOf i).toNat)
  case atStart => exact ⟨0, _, _, [], by omega, rfl, rfl, World.ownsRow_lit w #[] 0 (Nat.le_refl _) (Nat.zero_le _) rfl, ⟨rfl, fun r hr => absurd hr (by simp), by simp⟩, H.out.below ((Below.refl _ _).alloc (Nat.le_refl _) _), Inn.ofB ((Below.refl _ _).alloc (Nat.le_refl _) _)⟩
  case round =>
    obtain ⟨k, a1, c1, L, hk, rfl, rfl, OW, RT, DW, IW⟩ := hrel
    rename World => wo
    have lo : w.heap.size ≤ wo.heap.size := IW.out.size
    by_cases hlt : k < 6
    · have C := c_chance w0 wo g a n c (13 * k) zs 2 DW.out (by omega) (by omega)
      go_wp2_with fail
      refine C.mono ?_
      rintro e w1 ⟨⟨r, rfl⟩, hd, hi⟩
      have O1 : Hid (w1.ownsRow w.heap.size 35 7 (.slice a1 L.length c1) L.length (cellsR L)) := own_inn OW.out hi (by omega)
      have D1 : Hid (Drw w0 w1 g a n c (13 * k + 1) zs) := hd
      have I1 : Hid (Inn g (g + 1) w w1) := IW.out.trans hi
      have l1 : wo.heap.size ≤ w1.heap.size := hi.size
      clear hd hi C OW DW IW
      cases r
      · go_wp2
        go_roundw
        case rel => exact ⟨k + 1, a1, c1, L, by omega, by go_num, rfl, O1, RT.out.skip, D1.out.mono (by omega), I1⟩
        case measure => simp [intOf]; omega
      · have C2 := c_row w0 w1 g a n c (13 * k + 1) zs D1.out (by omega)
        go_wp2_with fail
        refine C2.mono ?_
        rintro e w2 ⟨⟨i, u, v, rfl, hok⟩, hd, hi⟩
        have O2 : Hid (w2.ownsRow w.heap.size 35 7 (.slice a1 L.length c1) L.length (cellsR L)) := own_inn O1.out hi (by omega)
        have D2 : Hid (Drw w0 w2 g a n c (13 * (k + 1)) zs) := hd.mono (by omega)
        have I2 : Hid (Inn g (g + 1) w w2) := I1.out.trans hi
        have l2 : w1.heap.size ≤ w2.heap.size := hi.size
        have HK : Hid (rowK ⟨(k : Int), u.1, u.2.1, u.2.2, v.1, v.2.1, v.2.2⟩ = true) := rowK_id2 hok (by omega)
        clear hd hi C2 O1 D1 I1 hok
        obtain ⟨u1, u2, u3⟩ := u
        obtain ⟨v1, v2, v3⟩ := v
        dsimp only at HK
        obtain ⟨V, hV⟩ : ∃ W, w2.alloc (.cells #[.int .i64 (k : Int), .int .i64 u1, .int .i64 u2, .string u3, .int .i64 v1, .int .i64 v2, .string v3] 35) = W := ⟨_, rfl⟩
        have bV : Below w2.heap.size w2 V := by rw [← hV]; exact (Below.refl _ _).alloc (Nat.le_refl _) _
        have XV : Hid (Box V w2.heap.size 35 #[.int .i64 (k : Int), .int .i64 u1, .int .i64 u2, .string u3, .int .i64 v1, .int .i64 v2, .string v3]) := by unfold Hid; rw [← hV]; exact Box.new _ _ _
        have lV : w2.heap.size < V.heap.size := XV.out.lt
        obtain ⟨V2, hV2⟩ : ∃ W, V.alloc (.cells #[.int .i64 (k : Int), .int .i64 u1, .int .i64 u2, .string u3, .int .i64 v1, .int .i64 v2, .string v3] 35) = W := ⟨_, rfl⟩
        have bV2 : Below V.heap.size V V2 := by rw [← hV2]; exact (Below.refl _ _).alloc (Nat.le_refl _) _
        have hB : Below w2.heap.size w2 V2 := bV.trans (bV2.mono bV.size)
        have XN : Hid (V2.heap[V.heap.size]? = some (.cells (cR ⟨(k : Int), u1, u2, u3, v1, v2, v3⟩).toArray 35 (0, 0))) := by unfold Hid; rw [← hV2]; show (V.heap.push _)[V.heap.size]? = _; simp [cR]
        have O3 : Hid (V2.ownsRow w.heap.size 35 7 (.slice a1 L.length c1) L.length (cellsR L)) := own_below O2.out hB
        have D3 : Hid (Drw w0 V2 g a n c (13 * (k + 1)) zs) := D2.out.below hB
        have I3 : Hid (Inn g (g + 1) w V2) := I2.out.trans (Inn.ofB hB)
        have hLl : L.length ≤ 6 := by have := RT.out.len; omega
        have l3 : w.heap.size ≤ V2.heap.size := I3.out.size
        obtain ⟨x0, x1, x2, x3, x4, x5, x6⟩ := box7 XV.out
        clear bV bV2 hB O2 D2 I2
        go_wp2_with (at_builtin; refine app_any _ rfl (.tmp 17) (.tmp 19) 46 rfl w.heap.size 35 i0 (.agg #[.int .i64 0, .int .i64 0, .int .i64 0, .string ⟨#[]⟩, .int .i64 0, .int .i64 0, .string ⟨#[]⟩]) 7 72 Try.underlying46 hi0.out hz0.out hz1.out hz2.out rfl (by omega) (.slice a1 L.length c1) L.length (cellsR L) rfl O3.out (some ⟨V.heap.size, 0, none⟩) 1 1 (cR ⟨(k : Int), u1, u2, u3, v1, v2, v3⟩) rfl (fun ex => by cases ex) rfl (fun ad ex => by cases ex; exact boxSrc XN.out) (fun u hu => oneR [⟨(k : Int), u1, u2, u3, v1, v2, v3⟩] u (by rw [cellsR_one]; exact hu)) (by unfold maxLen; omega) (by omega) l3 ?_; intro a5 c5 w5 o5 hg5 hx5)
        have O5 : Hid (w5.ownsRow w.heap.size 35 7 (.slice a5 (L ++ [(⟨(k : Int), u1, u2, u3, v1, v2, v3⟩ : RW)]).length c5) (L ++ [(⟨(k : Int), u1, u2, u3, v1, v2, v3⟩ : RW)]).length (cellsR (L ++ [⟨(k : Int), u1, u2, u3, v1, v2, v3⟩]))) := by
          unfold Hid
          rw [cellsR_append, cellsR_one, List.length_append]
          exact o5
        rw [ob_slice] at hg5
        have gb : ∀ q, ob a1 = some q → w.heap.size ≤ q := fun q hq => by
          obtain ⟨aa, cc, ee, hh⟩ := own_slc O3.out
          simp only [Value.slice.injEq] at ee
          rw [ee.1] at hq
          exact (hh q hq).1
        have I5 : Hid (Inn g (g + 1) w w5) := I3.out.trans_grown hg5 gb
        have D5 : Hid (Drw w0 w5 g a n c (13 * (k + 1)) zs) := D3.out.inn (Inn.of_grown (B := g + 1) (E := w5.heap.size + w.heap.size + V2.heap.size) hg5 (fun q hq => ⟨by have := gb q hq; omega, by obtain ⟨aa, cc, ee, hh⟩ := own_slc O3.out; simp only [Value.slice.injEq] at ee; rw [ee.1] at hq; have := (hh q hq).2; omega⟩)) (.inl (by omega)) (by omega)
        clear hg5 hx5 o5 gb
        go_wp2
        go_roundw
        case rel => exact ⟨k + 1, a5, c5, L ++ [⟨(k : Int), u1, u2, u3, v1, v2, v3⟩], by omega, by go_num, by simp, O5, RT.out.add rfl HK.out, D5, I5⟩
        case measure => simp [intOf]; omega
    · have e : k = 6 := by omega
      subst e
      go_wp2
      go_ret
      exact ⟨⟨a1, c1, L, rfl, OW.out, RT.out⟩, IW.out⟩

end Go.Proofs.Ytlapmidiakaimaa
