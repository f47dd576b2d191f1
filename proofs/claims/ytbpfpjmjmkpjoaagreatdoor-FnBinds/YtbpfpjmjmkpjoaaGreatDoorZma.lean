/-
  The specification's parser in memory: a node is put.
-/
import Derived.Test.YtbpfpjmjmkpjoaaGreatDoorZmh
import Derived.Deep.RegionWith
import Derived.BigQuiet
import Derived.Deep.QuietTactic
import Derived.Deep.RegionLaw
import Derived.Deep.RegionHeld3
import Derived.Deep.AppendLies
import Derived.Deep.RegionLawGrows
namespace Go.Proofs.YtbpfpjmjmkpjoaaGreatDoor
open Go Go.RowKit
attribute [local go_sem ↓] Go.wp_at_zero Go.wp_at_succ

set_option linter.unusedVariables false
set_option linter.unusedSimpArgs false
theorem box5 {w : World} {g : Nat} {t : TypeId} {v0 v1 v2 v3 v4 : Value} (h : Box w g t #[v0, v1, v2, v3, v4]) : w.cell? ⟨g, 0, none⟩ = some v0 ∧ w.cell? ⟨g, 1, none⟩ = some v1 ∧ w.cell? ⟨g, 2, none⟩ = some v2 ∧ w.cell? ⟨g, 3, none⟩ = some v3 ∧ w.cell? ⟨g, 4, none⟩ = some v4 := ⟨h.cell 0, h.cell 1, h.cell 2, h.cell 3, h.cell 4⟩
theorem own_neT {w : World} {B g n cap : Nat} {a : Option Addr} {xs : List Value} {c : Array Value} (h : w.ownsRow B 86 7 (.slice a n cap) n xs) (hb : Box w g 104 c) : ob a ≠ some g := by
  obtain ⟨h1, h2⟩ := h
  rcases h2 with ⟨h0, _⟩ | ⟨g', cap', cur, hv, hb', hg, hr⟩
  · simp only [Value.slice.injEq] at h0; rw [h0.1]; intro e; cases e
  · simp only [Value.slice.injEq] at hv
    rw [hv.1]
    intro e
    have e2 : g' = g := Option.some.inj e
    subst e2
    unfold Box at hb
    rw [hb] at hg
    cases hg
/-- The parser at block g: all tokens T, the place, the nodes, a code, how many forms are open. -/
def StS (B g : Nat) (w : World) (T : List ByteArray) (i : Nat) (L : List EN) (c o : Int) : Prop :=
  ∃ a0 c0 a cap, Box w g 104 #[.slice a0 T.length c0, .int .i64 (i : Int), .slice a L.length cap, .int .i64 c, .int .i64 o] ∧ TkR B w a0 T ∧ w.ownsRow B 86 7 (.slice a L.length cap) L.length (cellsE L) ∧ B ≤ g ∧ i ≤ T.length ∧ T.length ≤ 1000 ∧ L.length ≤ 40
theorem StS.lt {B g : Nat} {w : World} {T : List ByteArray} {i : Nat} {L : List EN} {c o : Int} (h : StS B g w T i L c o) : g < w.heap.size := by
  obtain ⟨a0, c0, a, cap, hb, _⟩ := h; exact hb.lt
theorem StS.below {B g : Nat} {w w' : World} {T : List ByteArray} {i : Nat} {L : List EN} {c o : Int} (h : StS B g w T i L c o) (hb : Below w.heap.size w w') : StS B g w' T i L c o := by
  have lg := h.lt
  obtain ⟨a0, c0, a, cap, hx, ht, ho, h1, h2, h3, h4⟩ := h
  exact ⟨a0, c0, a, cap, hx.belowS hb, ht.below (hb.mono (by omega)), own_below ho hb, h1, h2, h3, h4⟩
theorem own_set' {w : World} {B g k n cap : Nat} {a : Option Addr} {xs : List Value} {c : Array Value} {v : Value} (h : w.ownsRow B 86 7 (.slice a n cap) n xs) (hb : Box w g 104 c) : (w.setCell ⟨g, k, none⟩ v).ownsRow B 86 7 (.slice a n cap) n xs :=
  own_same h fun x e => by
    rw [ob_slice] at e
    have := own_neT h hb
    exact Below.heap_setCell w ⟨g, k, none⟩ v x (fun e2 => this (by rw [e, e2]))

theorem StS.put1 {B g : Nat} {w : World} {T : List ByteArray} {i k : Nat} {L : List EN} {c o : Int} (h : StS B g w T i L c o) (hk : k ≤ T.length) : StS B g (w.setCell ⟨g, 1, none⟩ (.int .i64 (k : Int))) T k L c o := by
  obtain ⟨a0, c0, a, cap, hx, ht, ho, h1, h2, h3, h4⟩ := h
  refine ⟨a0, c0, a, cap, ?_, ht.below ((Below.refl B w).setCell (p := ⟨g, 1, none⟩) h1 _), own_set' ho hx, h1, hk, h3, h4⟩
  have k := hx.set 1 (.int .i64 (k : Int))
  simpa using k
theorem StS.put3 {B g : Nat} {w : World} {T : List ByteArray} {i : Nat} {L : List EN} {c c' o : Int} (h : StS B g w T i L c o) : StS B g (w.setCell ⟨g, 3, none⟩ (.int .i64 c')) T i L c' o := by
  obtain ⟨a0, c0, a, cap, hx, ht, ho, h1, h2, h3, h4⟩ := h
  refine ⟨a0, c0, a, cap, ?_, ht.below ((Below.refl B w).setCell (p := ⟨g, 3, none⟩) h1 _), own_set' ho hx, h1, h2, h3, h4⟩
  have k := hx.set 3 (.int .i64 c')
  simpa using k
theorem StS.put4 {B g : Nat} {w : World} {T : List ByteArray} {i : Nat} {L : List EN} {c o o' : Int} (h : StS B g w T i L c o) : StS B g (w.setCell ⟨g, 4, none⟩ (.int .i64 o')) T i L c o' := by
  obtain ⟨a0, c0, a, cap, hx, ht, ho, h1, h2, h3, h4⟩ := h
  refine ⟨a0, c0, a, cap, ?_, ht.below ((Below.refl B w).setCell (p := ⟨g, 4, none⟩) h1 _), own_set' ho hx, h1, h2, h3, h4⟩
  have k := hx.set 4 (.int .i64 o')
  simpa using k
theorem StS.base {B g : Nat} {w : World} {T : List ByteArray} {i : Nat} {L : List EN} {c o : Int} (h : StS B g w T i L c o) : B ≤ g := by
  obtain ⟨a0, c0, a, cap, hx, ht, ho, h1, h2, h3, h4⟩ := h; exact h1
theorem StS.tok {B g : Nat} {w : World} {T : List ByteArray} {i : Nat} {L : List EN} {c o : Int} (h : StS B g w T i L c o) : (∀ t ∈ T, Tok t) ∧ i ≤ T.length ∧ T.length ≤ 1000 ∧ L.length ≤ 40 := by
  obtain ⟨a0, c0, a, cap, hx, ht, ho, h1, h2, h3, h4⟩ := h; exact ⟨ht.1, h2, h3, h4⟩
theorem nxt_drop {T : List ByteArray} {i : Nat} (h : i < T.length) : nxt (T.drop i) = T.getD i ⟨#[]⟩ := by
  unfold nxt
  rw [List.headD_eq_head?_getD, List.head?_drop, List.getD_eq_getElem?_getD]
set_option maxRecDepth 100000 in
set_option maxHeartbeats 8000000 in
theorem s_next (B g : Nat) (w : World) (T : List ByteArray) (i : Nat) (L : List EN) (c o : Int) (h : StS B g w T i L c o) :
    Calls Tryz.prog 90 #[.pointer (some ⟨g, 0, none⟩)] w fun e w' => e = .returned (.string (nxt (T.drop i))) ∧ StS B g w' T i L c o ∧ Below w.heap.size w w' := by
  have HS : Hid (StS B g w T i L c o) := h
  obtain ⟨a0, c0, a, cap, hx, ht, ho, h1, h2, h3, h4⟩ := h
  obtain ⟨N, hN⟩ : ∃ N, T.length = N := ⟨_, rfl⟩
  rw [hN] at hx h2 h3
  obtain ⟨x0, x1, x2, x3, x4⟩ := box5 hx
  have lg := hx.lt
  by_cases hlt : i < N
  · obtain ⟨b, off, rfl, hg, hall⟩ := ht.2 (by omega)
    obtain ⟨y, hy⟩ : ∃ y, nxt (T.drop i) = y := ⟨_, rfl⟩
    have c1 : w.cell? ⟨b, off + i, none⟩ = some (.string y) := by rw [hall i (by omega), ← hy, nxt_drop (by omega)]
    rw [hy]
    have g1 : (0 : Int) ≤ (i : Int) := by omega
    have g2 : (i : Int) < (N : Int) := by omega
    clear hx ht ho hN hall hy
    go_enter Tryz.func90, Tryz.ntmps90
    go_wp2_with fail
    go_quiet (fail)
    go_wp2_with fail
    go_quiet (fail)
    go_wp2
    go_ret
    exact ⟨rfl, HS.out.below (below_drewN (below_drewN (Below.refl _ _) _) _), below_drewN (below_drewN (Below.refl _ _) _) _⟩
  · have E : Hid (nxt (T.drop i) = ⟨#[]⟩) := by
      unfold Hid
      rw [List.drop_eq_nil_of_le (by omega)]; rfl
    have g2 : ¬ (i : Int) < (N : Int) := by omega
    clear hx ht ho hN
    rw [E.out]
    go_enter Tryz.func90, Tryz.ntmps90
    go_wp2_with fail
    go_quiet (fail)
    go_wp2
    go_ret
    exact ⟨rfl, HS.out.below (below_drewN (Below.refl _ _) _), below_drewN (Below.refl _ _) _⟩

end Go.Proofs.YtbpfpjmjmkpjoaaGreatDoor
namespace Go.Proofs.YtbpfpjmjmkpjoaaGreatDoor
open Go Go.RowKit
attribute [local go_sem ↓] Go.wp_at_zero Go.wp_at_succ

set_option linter.unusedVariables false
set_option linter.unusedSimpArgs false
theorem step_app_any {P : Program} (w : World) {ops : Array Oper} {o : Oper} {a : Act} {K : Act → World → Prop} {Q : Exit → Act → World → Prop} {E : Prop} (hgd : o.guard = none) (s x : Operand) (t : TypeId)
    (ho : o.op = .call { callee := .builtin .append, args := #[s, x], argTypes := #[t, t] })
    (base : Nat) (e : TypeId) (i : TypeInfo) (z : Value) (size bytes : Nat) (ht : P.underlying t = some (.slice e)) (hi : P.info? e = some i) (hz : i.zero = some z)
    (hsize : i.size = size) (hby : i.bytes = bytes) (hzs : z.cells.size = size) (hsz : 0 < size)
    (v : Value) (n : Nat) (xs : List Value) (hs : a.eval s = v) (hown : w.ownsRow base e size v n xs)
    (ax : Option Addr) (m c : Nat) (news : List Value) (hx : a.eval x = .slice ax m c) (hnone : ax = none → m = 0 ∧ c = 0) (hl : news.length = m * size) (hnews : ∀ ad, ax = some ad → ∀ j u, news[j]? = some u → w.cell? (ad.add j) = some u) (h1 : ∀ u ∈ news, u.oneCell' = true)
    (h63 : n + m ≤ maxLen) (hbytes : (n + m) * bytes ≤ 140737488355328) (hbase : base ≤ w.heap.size)
    (h : ∀ a' c' w', w'.ownsRow base e size (.slice a' (n + m) c') (n + m) (xs ++ news) → w.grownBy w' v.ownBlock → (∀ g, ob a' = some g → v.ownBlock = some g ∨ g = w.heap.size) → K (a.put o.dst (.slice a' (n + m) c')) w') :
    if Region.wanted o (yielded ops a.tmps) = true then Oper.wp P o a w K Q else E := by
  have hw : Region.wanted o (yielded ops a.tmps) = true := by simp [Region.wanted, hgd]
  rw [if_pos hw]
  cases ax with
  | none =>
    obtain ⟨rfl, rfl⟩ := hnone rfl
    have hn : news = [] := List.eq_nil_of_length_eq_zero (by simpa using hl)
    subst hn
    obtain ⟨a', c', rfl, _⟩ := own_slc hown
    have hrun := run_append_owned_none (P := P) (w := w) base t o.type e i size ht hi _ n xs hown
    unfold Oper.wp execOp
    simp only [ho, resolve, invoke, builtin, Sem.run_bind, Sem.run_pure, Result.andThen_ok, List.map_toArray, List.map_cons, List.map_nil, hs, hx, hrun]
    exact h a' c' w (by simpa using hown) (World.grownBy.refl _ _) (fun g e => .inl (by rw [ob_slice]; exact e))
  | some ad =>
    obtain ⟨v', w', hr, hown', hgr, _, hblk⟩ := run_append_own_at (P := P) w base t o.type e i z size bytes ht hi hz hsize hby hzs hsz v n xs hown ad m c news hl (hnews ad rfl) h1 h63 hbytes hbase
    obtain ⟨a', c', rfl, _⟩ := own_slc hown'
    rw [ob_slice] at hblk
    unfold Oper.wp execOp
    simp only [ho, resolve, invoke, builtin, Sem.run_bind, Sem.run_pure, Result.andThen_ok, List.map_toArray, List.map_cons, List.map_nil, hs, hx, hr]
    exact h a' c' w' hown' hgr (fun g e => hblk.elim (fun k => .inl (k ▸ e)) (fun k => .inr (Option.some.inj (e.symm.trans k))))
set_option maxRecDepth 100000 in
set_option maxHeartbeats 8000000 in
theorem s_takeD (t : ByteArray) (B g : Nat) (w : World) (T : List ByteArray) (i : Nat) (L : List EN) (c o : Int) (h : StS B g w T i L c o) (hc : (c == 0) = false) :
    Calls Tryz.prog 84 #[.pointer (some ⟨g, 0, none⟩), .string t] w fun e w' => e = .returned (.bool false) ∧ StS B g w' T i L c o ∧ Below w.heap.size w w' := by
  have HS : Hid (StS B g w T i L c o) := h
  have lB := h.base
  have lg := h.lt
  obtain ⟨a0, c0, a, cap, hx, ht, ho, h1, h2, h3, h4⟩ := h
  obtain ⟨x0, x1, x2, x3, x4⟩ := box5 hx
  have hc2 : (c != 0) = true := by simpa using hc
  clear hx ht ho
  go_enter Tryz.func84, Tryz.ntmps84
  go_wp2
  go_ret
  exact ⟨rfl, HS.out, Below.refl _ _⟩
set_option maxRecDepth 100000 in
set_option maxHeartbeats 8000000 in
theorem s_takeN (t : ByteArray) (B g : Nat) (w : World) (T : List ByteArray) (i : Nat) (L : List EN) (c o : Int) (h : StS B g w T i L c o) (hc : c = 0) (hn : nxt (T.drop i) ≠ t) :
    Calls Tryz.prog 84 #[.pointer (some ⟨g, 0, none⟩), .string t] w fun e w' => e = .returned (.bool false) ∧ StS B g w' T i L c o ∧ Below w.heap.size w w' := by
  subst hc
  have C := s_next B g w T i L 0 o h
  obtain ⟨y, hy⟩ : ∃ y, nxt (T.drop i) = y := ⟨_, rfl⟩
  rw [hy] at hn C
  have q : (y.toList == t.toList) = false := by
    rw [toList_data, toList_data]
    simp only [beq_eq_false_iff_ne, ne_eq]
    exact fun e => hn (ba_eq0 (Array.toList_inj.1 e))
  have HS : Hid (StS B g w T i L 0 o) := h
  have lB := h.base
  have lg := h.lt
  obtain ⟨a0, c0, a, cap, hx, ht, ho, h1, h2, h3, h4⟩ := h
  obtain ⟨x0, x1, x2, x3, x4⟩ := box5 hx
  clear hx ht ho hy hn
  go_enter Tryz.func84, Tryz.ntmps84
  go_wp2_with fail
  refine C.mono ?_
  rintro e w1 ⟨rfl, hs1, hb1⟩
  have HS1 : Hid (StS B g w1 T i L 0 o) := hs1
  have HB1 : Hid (Below w.heap.size w w1) := hb1
  clear C hs1 hb1
  go_wp2
  go_ret
  exact ⟨rfl, HS1.out, HB1.out⟩
set_option maxRecDepth 100000 in
set_option maxHeartbeats 8000000 in
theorem s_takeY (t : ByteArray) (B g : Nat) (w : World) (T : List ByteArray) (i : Nat) (L : List EN) (c o : Int) (h : StS B g w T i L c o) (hc : c = 0) (hn : nxt (T.drop i) = t) (hl : i < T.length) :
    Calls Tryz.prog 84 #[.pointer (some ⟨g, 0, none⟩), .string t] w fun e w' => e = .returned (.bool true) ∧ StS B g w' T (i + 1) L c o ∧ Below B w w' := by
  subst hc
  have C := s_next B g w T i L 0 o h
  rw [hn] at C
  have q : (t.toList == t.toList) = true := by simp
  have HS : Hid (StS B g w T i L 0 o) := h
  have lB := h.base
  have lg := h.lt
  obtain ⟨a0, c0, a, cap, hx, ht, ho, h1, h2, h3, h4⟩ := h
  obtain ⟨x0, x1, x2, x3, x4⟩ := box5 hx
  clear hx ht ho hn
  go_enter Tryz.func84, Tryz.ntmps84
  go_wp2_with fail
  refine C.mono ?_
  rintro e w1 ⟨rfl, hs1, hb1⟩
  have HS1 : Hid (StS B g w1 T i L 0 o) := hs1
  have HB1 : Hid (Below B w w1) := hb1.mono (by omega)
  obtain ⟨b0, d0, b, cap', hx1, _, _, _, _, _, _⟩ := hs1
  obtain ⟨y0, y1, y2, y3, y4⟩ := box5 hx1
  have t1 := hx1.thaw 1
  have e1 : IntKind.i64.wrap ((i : Int) + 1) = (i : Int) + 1 := by simp [IntKind.wrap_i64]; omega
  clear C hb1 hx1 x0 x1 x2 x3 x4
  go_wp2
  go_ret
  have k := HS1.out.put1 (k := i + 1) (by omega)
  rw [Int.natCast_add] at k
  exact ⟨rfl, k, HB1.out.setCell (p := ⟨g, 1, none⟩) lB _⟩
set_option maxRecDepth 100000 in
set_option maxHeartbeats 8000000 in
theorem s_failD (z : Int) (B g : Nat) (w : World) (T : List ByteArray) (i : Nat) (L : List EN) (c o : Int) (h : StS B g w T i L c o) (hc : (c == 0) = false) :
    Calls Tryz.prog 87 #[.pointer (some ⟨g, 0, none⟩), .int .i64 z] w fun e w' => e = .returned (.tuple #[]) ∧ StS B g w' T i L c o ∧ Below B w w' := by
  have HS : Hid (StS B g w T i L c o) := h
  have lB := h.base
  have lg := h.lt
  obtain ⟨a0, c0, a, cap, hx, ht, ho, h1, h2, h3, h4⟩ := h
  obtain ⟨x0, x1, x2, x3, x4⟩ := box5 hx
  clear hx ht ho
  go_enter Tryz.func87, Tryz.ntmps87
  go_wp2
  go_end0
  exact ⟨rfl, HS.out, Below.refl _ _⟩
set_option maxRecDepth 100000 in
set_option maxHeartbeats 8000000 in
theorem s_fail (z : Int) (B g : Nat) (w : World) (T : List ByteArray) (i : Nat) (L : List EN) (c o : Int) (h : StS B g w T i L c o) (hc : c = 0) :
    Calls Tryz.prog 87 #[.pointer (some ⟨g, 0, none⟩), .int .i64 z] w fun e w' => e = .returned (.tuple #[]) ∧ StS B g w' T i L z o ∧ Below B w w' := by
  subst hc
  have HS : Hid (StS B g w T i L 0 o) := h
  have lB := h.base
  have lg := h.lt
  obtain ⟨a0, c0, a, cap, hx, ht, ho, h1, h2, h3, h4⟩ := h
  obtain ⟨x0, x1, x2, x3, x4⟩ := box5 hx
  have t3 := hx.thaw 3
  clear hx ht ho
  go_enter Tryz.func87, Tryz.ntmps87
  go_wp2
  go_end0
  exact ⟨rfl, HS.out.put3, (Below.refl B w).setCell (p := ⟨g, 3, none⟩) lB _⟩
set_option maxRecDepth 100000 in
set_option maxHeartbeats 8000000 in
theorem s_deepB (k : Nat) (B g : Nat) (w : World) (T : List ByteArray) (i : Nat) (L : List EN) (c o : Int) (h : StS B g w T i L c o) (hk : o = (k : Int)) (h0 : 1 ≤ k) (h48 : k ≤ 49) :
    Calls Tryz.prog 201 #[.pointer (some ⟨g, 0, none⟩), .int .i64 (-1)] w fun e w' => e = .returned (.tuple #[]) ∧ StS B g w' T i L c ((k : Int) - 1) ∧ Below B w w' := by
  subst hk
  have HS : Hid (StS B g w T i L c (k : Int)) := h
  have lB := h.base
  have lg := h.lt
  obtain ⟨a0, c0, a, cap, hx, ht, ho, h1, h2, h3, h4⟩ := h
  obtain ⟨x0, x1, x2, x3, x4⟩ := box5 hx
  have t4 := hx.thaw 4
  have e1 : IntKind.i64.wrap ((k : Int) + -1) = (k : Int) - 1 := by simp [IntKind.wrap_i64]; omega
  have e2 : ¬ (48 : Int) < (k : Int) - 1 := by omega
  clear hx ht ho
  go_enter Tryz.func201, Tryz.ntmps201
  go_wp2
  go_end0
  exact ⟨rfl, HS.out.put4, (Below.refl B w).setCell (p := ⟨g, 4, none⟩) lB _⟩
set_option maxRecDepth 100000 in
set_option maxHeartbeats 8000000 in
theorem s_deep (k : Nat) (B g : Nat) (w : World) (T : List ByteArray) (i : Nat) (L : List EN) (c o : Int) (h : StS B g w T i L c o) (hk : o = (k : Int)) (h48 : k < 48) :
    Calls Tryz.prog 201 #[.pointer (some ⟨g, 0, none⟩), .int .i64 1] w fun e w' => e = .returned (.tuple #[]) ∧ StS B g w' T i L c ((k : Int) + 1) ∧ Below B w w' := by
  subst hk
  have HS : Hid (StS B g w T i L c (k : Int)) := h
  have lB := h.base
  have lg := h.lt
  obtain ⟨a0, c0, a, cap, hx, ht, ho, h1, h2, h3, h4⟩ := h
  obtain ⟨x0, x1, x2, x3, x4⟩ := box5 hx
  have t4 := hx.thaw 4
  have e1 : IntKind.i64.wrap ((k : Int) + 1) = (k : Int) + 1 := by simp [IntKind.wrap_i64]; omega
  have e2 : ¬ (48 : Int) < (k : Int) + 1 := by omega
  clear hx ht ho
  go_enter Tryz.func201, Tryz.ntmps201
  go_wp2
  go_end0
  exact ⟨rfl, HS.out.put4, (Below.refl B w).setCell (p := ⟨g, 4, none⟩) lB _⟩
set_option maxRecDepth 100000 in
set_option maxHeartbeats 8000000 in
theorem s_deepX (B g : Nat) (w : World) (T : List ByteArray) (i : Nat) (L : List EN) (c o : Int) (h : StS B g w T i L c o) (hk : o = 48) (hc : c = 0) :
    Calls Tryz.prog 201 #[.pointer (some ⟨g, 0, none⟩), .int .i64 1] w fun e w' => e = .returned (.tuple #[]) ∧ StS B g w' T T.length L 16 49 ∧ Below B w w' := by
  subst hk hc
  have HS : Hid (StS B g w T i L 0 48) := h
  have lB := h.base
  have lg := h.lt
  obtain ⟨a0, c0, a, cap, hx, ht, ho, h1, h2, h3, h4⟩ := h
  obtain ⟨x0, x1, x2, x3, x4⟩ := box5 hx
  have t4 := hx.thaw 4
  have e1 : IntKind.i64.wrap ((48 : Int) + 1) = 49 := by decide
  obtain ⟨V, hV⟩ : ∃ Q, w.setCell ⟨g, 4, none⟩ (.int .i64 49) = Q := ⟨_, rfl⟩
  have sV : StS B g V T i L 0 49 := by rw [← hV]; exact HS.out.put4
  have bV : Hid (Below B w V) := by unfold Hid; rw [← hV]; exact (Below.refl B w).setCell (p := ⟨g, 4, none⟩) lB _
  have C := s_fail 16 B g V T i L 0 49 sV rfl
  have hxV : Box V g 104 #[.slice a0 T.length c0, .int .i64 (i : Int), .slice a L.length cap, .int .i64 0, .int .i64 49] := by
    rw [← hV]
    have k := hx.set 4 (.int .i64 49)
    simpa using k
  obtain ⟨v0, v1, v2, v3, v4⟩ := box5 hxV
  clear hx ht ho hxV sV
  go_enter Tryz.func201, Tryz.ntmps201
  go_wp2_with fail
  refine C.mono ?_
  rintro e w1 ⟨rfl, hs1, hb1⟩
  have HS1 : Hid (StS B g w1 T i L 16 49) := hs1
  have HB1 : Hid (Below B w w1) := bV.out.trans hb1
  obtain ⟨b0, d0, b, cap', hx1, _, _, _, _, _, _⟩ := hs1
  obtain ⟨y0, y1, y2, y3, y4⟩ := box5 hx1
  have t1 := hx1.thaw 1
  clear C hb1 hx1 x0 x1 x2 x3 x4 v0 v1 v2 v3 v4 hV
  go_wp2
  go_end0
  exact ⟨rfl, HS1.out.put1 (Nat.le_refl _), HB1.out.setCell (p := ⟨g, 1, none⟩) lB _⟩

end Go.Proofs.YtbpfpjmjmkpjoaaGreatDoor
namespace Go.Proofs.YtbpfpjmjmkpjoaaGreatDoor
open Go Go.RowKit
attribute [local go_sem ↓] Go.wp_at_zero Go.wp_at_succ

set_option linter.unusedVariables false
set_option linter.unusedSimpArgs false
set_option maxRecDepth 100000 in
set_option maxHeartbeats 8000000 in
theorem s_putM (x : EN) (B g : Nat) (w : World) (T : List ByteArray) (i : Nat) (L : List EN) (c o : Int) (h : StS B g w T i L c o) (hc : c = 0) (hL : L.length = 40) :
    Calls Tryz.prog 140 #[.pointer (some ⟨g, 0, none⟩), .agg #[.int .i64 x.o, .int .i64 x.a, .int .i64 x.b, .int .i64 x.c, .int .i64 x.k, .int .i64 x.n, .string x.t]] w fun e w' => e = .returned (.int .i64 0) ∧ StS B g w' T i L 6 o ∧ Below B w w' := by
  subst hc
  have HS : Hid (StS B g w T i L 0 o) := h
  have lB := h.base
  have lg := h.lt
  obtain ⟨a0, c0, a, cap, hx, ht, ho, h1, h2, h3, h4⟩ := h
  obtain ⟨x0, x1, x2, x3, x4⟩ := box5 hx
  obtain ⟨V, hV⟩ : ∃ Q, w.alloc (.cells #[.int .i64 x.o, .int .i64 x.a, .int .i64 x.b, .int .i64 x.c, .int .i64 x.k, .int .i64 x.n, .string x.t] 86) = Q := ⟨_, rfl⟩
  have bV : Below w.heap.size w V := by rw [← hV]; exact (Below.refl _ _).alloc (Nat.le_refl _) _
  have XV : Hid (Box V w.heap.size 86 #[.int .i64 x.o, .int .i64 x.a, .int .i64 x.b, .int .i64 x.c, .int .i64 x.k, .int .i64 x.n, .string x.t]) := by unfold Hid; rw [← hV]; exact Box.new _ _ _
  have sV : StS B g V T i L 0 o := HS.out.below bV
  have BV : Hid (Below B w V) := bV.mono (by omega)
  have C := s_fail 6 B g V T i L 0 o sV rfl
  have hxV := hx.belowS bV
  rw [hL] at hxV
  obtain ⟨v0, v1, v2, v3, v4⟩ := box5 hxV
  clear hx ht ho hxV sV bV
  go_enter Tryz.func140, Tryz.ntmps140
  go_wp2_with fail
  refine C.mono ?_
  rintro e w1 ⟨rfl, hs1, hb1⟩
  have HS1 : Hid (StS B g w1 T i L 6 o) := hs1
  have HB1 : Hid (Below B w w1) := BV.out.trans hb1
  clear C hs1 hb1
  go_wp2
  go_ret
  exact ⟨rfl, HS1.out, HB1.out⟩
set_option maxRecDepth 100000 in
set_option maxHeartbeats 8000000 in
theorem s_put (x : EN) (B g : Nat) (w : World) (T : List ByteArray) (i : Nat) (L : List EN) (c o : Int) (h : StS B g w T i L c o) (hL : L.length < 40) :
    Calls Tryz.prog 140 #[.pointer (some ⟨g, 0, none⟩), .agg #[.int .i64 x.o, .int .i64 x.a, .int .i64 x.b, .int .i64 x.c, .int .i64 x.k, .int .i64 x.n, .string x.t]] w fun e w' => e = .returned (.int .i64 (L.length : Int)) ∧ StS B g w' T i (L ++ [x]) c o ∧ Below B w w' := by
  obtain ⟨iE, giV, gz0, gz1, gz2⟩ := info_parts infoE
  have hiE : Hid (Tryz.prog.info? 86 = some iE) := giV
  have hz0 : Hid (iE.zero = some (.agg #[.int .i64 0, .int .i64 0, .int .i64 0, .int .i64 0, .int .i64 0, .int .i64 0, .string ⟨#[]⟩])) := gz0
  have hz1 : Hid (iE.size = 7) := gz1
  have hz2 : Hid (iE.bytes = 64) := gz2
  clear giV gz0 gz1 gz2
  have HS : Hid (StS B g w T i L c o) := h
  have lB := h.base
  have lg := h.lt
  obtain ⟨a0, c0, a, cap, hx, ht, ho, h1, h2, h3, h4⟩ := h
  obtain ⟨x0, x1, x2, x3, x4⟩ := box5 hx
  obtain ⟨V, hV⟩ : ∃ Q, w.alloc (.cells #[.int .i64 x.o, .int .i64 x.a, .int .i64 x.b, .int .i64 x.c, .int .i64 x.k, .int .i64 x.n, .string x.t] 86) = Q := ⟨_, rfl⟩
  have bV : Below w.heap.size w V := by rw [← hV]; exact (Below.refl _ _).alloc (Nat.le_refl _) _
  have XV : Hid (Box V w.heap.size 86 #[.int .i64 x.o, .int .i64 x.a, .int .i64 x.b, .int .i64 x.c, .int .i64 x.k, .int .i64 x.n, .string x.t]) := by unfold Hid; rw [← hV]; exact Box.new _ _ _
  have sV : StS B g V T i L c o := HS.out.below bV
  have BV : Hid (Below B w V) := bV.mono (by omega)
  have hxV := hx.belowS bV
  obtain ⟨v0, v1, v2, v3, v4⟩ := box5 hxV
  have t2 := hxV.thaw 2
  have lV := XV.out.lt
  obtain ⟨n0, n1, n2, n3, n4, n5, n6⟩ := box7 XV.out
  have OV : Hid (V.ownsRow B 86 7 (.slice a L.length cap) L.length (cellsE L)) := own_below ho bV
  obtain ⟨VB, hVB⟩ : ∃ Q, V.alloc (.cells #[.int .i64 x.o, .int .i64 x.a, .int .i64 x.b, .int .i64 x.c, .int .i64 x.k, .int .i64 x.n, .string x.t] 86) = Q := ⟨_, rfl⟩
  have bVB : Below V.heap.size V VB := by rw [← hVB]; exact (Below.refl _ _).alloc (Nat.le_refl _) _
  have XB : Hid (Box VB V.heap.size 86 #[.int .i64 x.o, .int .i64 x.a, .int .i64 x.b, .int .i64 x.c, .int .i64 x.k, .int .i64 x.n, .string x.t]) := by unfold Hid; rw [← hVB]; exact Box.new _ _ _
  have OB : Hid (VB.ownsRow B 86 7 (.slice a L.length cap) L.length (cellsE L)) := own_below OV.out bVB
  have hxB : Hid (Box VB g 104 #[.slice a0 T.length c0, .int .i64 (i : Int), .slice a L.length cap, .int .i64 c, .int .i64 o]) := hxV.belowS bVB
  have BB : Hid (Below B w VB) := BV.out.trans (bVB.mono (by omega))
  have lVB := XB.out.lt
  have lBB : B ≤ VB.heap.size := by omega
  have e0 : ((L.length : Int) == 40) = false := by simp; omega
  have HTK : Hid (TkR B w a0 T) := ht
  have u2 := (box5 hxB.out).2.2.1
  clear hx ht ho hxV sV bV x0 x1 x2 x3 x4 bVB
  go_enter Tryz.func140, Tryz.ntmps140
  go_wp2_with fail
  go_region_law (first
    | (refine step_app_any _ (by rfl) (.tmp 17) (.tmp 19) 22 (by rfl) B 86 iE (.agg #[.int .i64 0, .int .i64 0, .int .i64 0, .int .i64 0, .int .i64 0, .int .i64 0, .string ⟨#[]⟩]) 7 64 Tryz.underlying22 hiE.out hz0.out hz1.out hz2.out rfl (by omega) (.slice a L.length cap) L.length (cellsE L) (by rfl) (by exact OB.out) (some ⟨V.heap.size, 0, none⟩) 1 1 (cE x) (by rfl) (fun h => by cases h) rfl (by exact news_boxE x XB.out) (oneE _) (by unfold maxLen; omega) (by omega) (by exact lBB) ?_
       intro a9 c9 w9 ox hgx hax
       rw [ob_slice] at hgx hax
       have G9 : Hid (VB.grownBy w9 (ob a)) := (by exact ⟨hgx.os, hgx.tape, hgx.output, hgx.size, hgx.block⟩)
       have O9 : Hid (w9.ownsRow B 86 7 (.slice a9 (L.length + 1) c9) (L.length + 1) (cellsE L ++ cE x)) := ox
       have hx9 : Hid (Box w9 g 104 #[.slice a0 T.length c0, .int .i64 (i : Int), .slice a L.length cap, .int .i64 c, .int .i64 o]) := (by exact (G9.out.block g hxB.out.lt (Ne.symm (own_neT OB.out hxB.out))).trans hxB.out)
       have u92 := (box5 hx9.out).2.2.1
       have t92 := hx9.out.thaw 2
       clear ox hgx hax))
  all_goals
    have e1 : IntKind.i64.wrap ((L.length : Int) + 1 - 1) = (L.length : Int) := by simp [IntKind.wrap_i64]; omega
    go_wp2
    go_ret
    have B9 : Below B VB w9 := ⟨G9.out.os, G9.out.tape, G9.out.output, G9.out.size, fun k hk => G9.out.block k (by omega) (fun e => by have := (own_blkN OB.out k e.symm).1; omega)⟩
    have F9 : Below B w w9 := BB.out.trans B9
    refine ⟨rfl, ?_, F9.setCell (p := ⟨g, 2, none⟩) lB _⟩
    refine ⟨a0, c0, a9, c9, ?_, (HTK.out.below F9).below ((Below.refl B w9).setCell (p := ⟨g, 2, none⟩) lB _), ?_, lB, h2, h3, by rw [snocE]; omega⟩
    · have k := hx9.out.set 2 (.slice a9 (L.length + 1) c9)
      rw [snocE]
      simpa using k
    · rw [snocE, cellsE_app, cellsE_one]
      exact own_set' O9.out hx9.out
set_option maxRecDepth 100000 in
set_option maxHeartbeats 8000000 in
theorem s_putX (x : EN) (B g : Nat) (w : World) (T : List ByteArray) (i : Nat) (L : List EN) (c o : Int) (h : StS B g w T i L c o) (hc : (c == 0) = false) (hL : L.length = 40) :
    Calls Tryz.prog 140 #[.pointer (some ⟨g, 0, none⟩), .agg #[.int .i64 x.o, .int .i64 x.a, .int .i64 x.b, .int .i64 x.c, .int .i64 x.k, .int .i64 x.n, .string x.t]] w fun e w' => e = .returned (.int .i64 0) ∧ StS B g w' T i L c o ∧ Below B w w' := by
  have HS : Hid (StS B g w T i L c o) := h
  have lB := h.base
  have lg := h.lt
  obtain ⟨a0, c0, a, cap, hx, ht, ho, h1, h2, h3, h4⟩ := h
  obtain ⟨x0, x1, x2, x3, x4⟩ := box5 hx
  obtain ⟨V, hV⟩ : ∃ Q, w.alloc (.cells #[.int .i64 x.o, .int .i64 x.a, .int .i64 x.b, .int .i64 x.c, .int .i64 x.k, .int .i64 x.n, .string x.t] 86) = Q := ⟨_, rfl⟩
  have bV : Below w.heap.size w V := by rw [← hV]; exact (Below.refl _ _).alloc (Nat.le_refl _) _
  have XV : Hid (Box V w.heap.size 86 #[.int .i64 x.o, .int .i64 x.a, .int .i64 x.b, .int .i64 x.c, .int .i64 x.k, .int .i64 x.n, .string x.t]) := by unfold Hid; rw [← hV]; exact Box.new _ _ _
  have sV : StS B g V T i L c o := HS.out.below bV
  have BV : Hid (Below B w V) := bV.mono (by omega)
  have C := s_failD 6 B g V T i L c o sV hc
  have hxV := hx.belowS bV
  rw [hL] at hxV
  obtain ⟨v0, v1, v2, v3, v4⟩ := box5 hxV
  clear hx ht ho hxV sV bV
  go_enter Tryz.func140, Tryz.ntmps140
  go_wp2_with fail
  refine C.mono ?_
  rintro e w1 ⟨rfl, hs1, hb1⟩
  have HS1 : Hid (StS B g w1 T i L c o) := hs1
  have HB1 : Hid (Below B w w1) := BV.out.trans hb1
  clear C hs1 hb1
  go_wp2
  go_ret
  exact ⟨rfl, HS1.out, HB1.out⟩
theorem s_putD (x : EN) (B g : Nat) (w : World) (T : List ByteArray) (i : Nat) (L : List EN) (c o : Int) (h : StS B g w T i L c o) (hc : (c == 0) = false) :
    Calls Tryz.prog 140 #[.pointer (some ⟨g, 0, none⟩), .agg #[.int .i64 x.o, .int .i64 x.a, .int .i64 x.b, .int .i64 x.c, .int .i64 x.k, .int .i64 x.n, .string x.t]] w fun e w' => ∃ (z : Int) (L' : List EN), e = .returned (.int .i64 z) ∧ StS B g w' T i L' c o ∧ Below B w w' := by
  by_cases h40 : L.length < 40
  · refine (s_put x B g w T i L c o h h40).mono ?_
    rintro e w' ⟨rfl, h1, h2⟩
    exact ⟨_, _, rfl, h1, h2⟩
  · have hl := h.tok.2.2.2
    refine (s_putX x B g w T i L c o h hc (by omega)).mono ?_
    rintro e w' ⟨rfl, h1, h2⟩
    exact ⟨_, _, rfl, h1, h2⟩

end Go.Proofs.YtbpfpjmjmkpjoaaGreatDoor
