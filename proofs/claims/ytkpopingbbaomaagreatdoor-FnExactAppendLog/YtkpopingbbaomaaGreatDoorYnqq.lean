/-
  A record put behind a store's log.
-/
import Derived.Test.YtkpopingbbaomaaGreatDoorYnlq
import Derived.Test.YtkpopingbbaomaaGreatDoorYnfq
import Derived.Deep.RegionWith
import Derived.Deep.AppendLies
import Derived.Deep.RegionLawGrows
namespace Go.Proofs.YtkpopingbbaomaaGreatDoor
open Go Go.RowKit
attribute [local go_sem ↓] Go.wp_at_zero Go.wp_at_succ

theorem step_app_any {P : Program} (w : World) {ops : Array Oper} {o : Oper} {a : Act} {K : Act → World → Prop} {Q : Exit → Act → World → Prop} {E : Prop} (hgd : o.guard = none) (s x : Operand) (t : TypeId)
    (ho : o.op = .call { callee := .builtin .append, args := #[s, x], argTypes := #[t, t] })
    (base : Nat) (e : TypeId) (i : TypeInfo) (z : Value) (size bytes : Nat) (ht : P.underlying t = some (.slice e)) (hi : P.info? e = some i) (hz : i.zero = some z)
    (hsize : i.size = size) (hby : i.bytes = bytes) (hzs : z.cells.size = size) (hsz : 0 < size)
    (v : Value) (n : Nat) (xs : List Value) (hs : a.eval s = v) (hown : w.ownsRow base e size v n xs)
    (ax : Option Addr) (m c : Nat) (news : List Value) (hx : a.eval x = .slice ax m c) (hnone : ax = none → m = 0 ∧ c = 0) (hl : news.length = m * size) (hnews : ∀ ad, ax = some ad → ∀ j u, news[j]? = some u → w.cell? (ad.add j) = some u) (h1 : ∀ u ∈ news, u.oneCell' = true)
    (h63 : n + m ≤ maxLen) (hbytes : (n + m) * bytes ≤ 140737488355328) (hbase : base ≤ w.heap.size)
    (h : ∀ a' c' w', w'.ownsRow base e size (.slice a' (n + m) c') (n + m) (xs ++ news) → w.grownBy w' v.ownBlock → (∀ g, ob a' = some g → v.ownBlock = some g ∨ g = w.heap.size) → K (a.put o.dst (.slice a' (n + m) c')) w') :
    if Region.wanted o (yielded ops a.tmps) = true then Oper.wp P o a w K Q else E := by
  have hw : Region.wanted o (yielded ops a.tmps) = true := by simp [Region.wanted, hgd]
  rw [if_pos hw]
  cases ax with
  | none =>
    obtain ⟨rfl, rfl⟩ := hnone rfl
    have hn : news = [] := List.eq_nil_of_length_eq_zero (by simpa using hl)
    subst hn
    obtain ⟨a', c', rfl, _⟩ := own_slc hown
    have hrun := run_append_owned_none (P := P) (w := w) base t o.type e i size ht hi _ n xs hown
    unfold Oper.wp execOp
    simp only [ho, resolve, invoke, builtin, Sem.run_bind, Sem.run_pure, Result.andThen_ok, List.map_toArray, List.map_cons, List.map_nil, hs, hx, hrun]
    exact h a' c' w (by simpa using hown) (World.grownBy.refl _ _) (fun g e => .inl (by rw [ob_slice]; exact e))
  | some ad =>
    obtain ⟨v', w', hr, hown', hgr, _, hblk⟩ := run_append_own_at (P := P) w base t o.type e i z size bytes ht hi hz hsize hby hzs hsz v n xs hown ad m c news hl (hnews ad rfl) h1 h63 hbytes hbase
    obtain ⟨a', c', rfl, _⟩ := own_slc hown'
    rw [ob_slice] at hblk
    unfold Oper.wp execOp
    simp only [ho, resolve, invoke, builtin, Sem.run_bind, Sem.run_pure, Result.andThen_ok, List.map_toArray, List.map_cons, List.map_nil, hs, hx, hr]
    exact h a' c' w' hown' hgr (fun g e => hblk.elim (fun k => .inl (k ▸ e)) (fun k => .inr (Option.some.inj (e.symm.trans k))))
/-- The log and the code that the putting of a record answers with. -/
def addL (ep : Int) (L : List DR) (r : DR) : List DR × Int :=
  if L.length = 60 then (L, 7) else if okLR ⟨ep, ((L.length : Int) + 1), r.t, r.k, r.p, r.n, r.g, r.s, r.b, r.a⟩ then (L ++ [⟨ep, ((L.length : Int) + 1), r.t, r.k, r.p, r.n, r.g, r.s, r.b, r.a⟩], 0) else (L, 3)
/-- What the putting of a record leaves: the store at g with the log A.1, and the code A.2. -/
def AddPost (w : World) (g base : Nat) (h : HD) (ep : Int) (la : Option Addr) (su : Int) (fa : Option Addr) (fn fc : Nat) (ha : Int) (A : List DR × Int) (e' : Ending) (w' : World) : Prop :=
  ∃ la' lc', e' = .returned (.int .i64 A.2) ∧ Box w' g 46 #[.slice h.a0 h.n0 h.c0, .slice h.a1 h.n1 h.c1, .bool h.b, .slice h.a2 h.n2 h.c2, .int .i64 ep, .slice la' A.1.length lc', .int .i64 su, .slice fa fn fc, .int .i64 ha] ∧ w'.ownsRow base 78 10 (.slice la' A.1.length lc') A.1.length (cellsQ A.1) ∧ (∀ x, ob la' = some x → ob la = some x ∨ w.heap.size ≤ x) ∧ (∀ x, x < w.heap.size → x ≠ g → ob la ≠ some x → w'.heap[x]? = w.heap[x]?) ∧ w.heap.size ≤ w'.heap.size ∧ ∀ B v, Below B v w → B ≤ g → B ≤ w.heap.size → (∀ x, ob la = some x → B ≤ x) → Below B v w'
theorem boxR {w : World} {g : Nat} {ty : TypeId} {v : DR} (h : Box w g ty #[.int .i64 v.e, .int .i64 v.l, .int .i64 v.t, .int .i64 v.k, .int .i64 v.p, .int .i64 v.n, .int .i64 v.g, .int .i64 v.s, .string v.b, .string v.a]) : ∀ j u, (cQ v)[j]? = some u → w.cell? ⟨g, 0 + j, none⟩ = some u := by
  obtain ⟨r0, r1, r2, r3, r4, r5, r6, r7, r8, r9⟩ := box10 h
  intro j u hj
  rw [Nat.zero_add]
  match j, hj with
  | 0, hj => cases hj; exact r0
  | 1, hj => cases hj; exact r1
  | 2, hj => cases hj; exact r2
  | 3, hj => cases hj; exact r3
  | 4, hj => cases hj; exact r4
  | 5, hj => cases hj; exact r5
  | 6, hj => cases hj; exact r6
  | 7, hj => cases hj; exact r7
  | 8, hj => cases hj; exact r8
  | 9, hj => cases hj; exact r9
  | j + 10, hj => simp [cQ] at hj
theorem cellsQ_snoc (L : List DR) (v : DR) : cellsQ (L ++ [v]) = cellsQ L ++ cQ v := by unfold cellsQ; simp
set_option maxRecDepth 100000 in
set_option maxHeartbeats 8000000 in
theorem c_add (h : HD) (ep : Int) (la : Option Addr) (ln lc : Nat) (L : List DR) (su : Int) (fa : Option Addr) (fn fc : Nat) (ha : Int) (e l t k p n q s : Int) (b a : ByteArray) (g base : Nat) (w : World) (X : Box w g 46 #[.slice h.a0 h.n0 h.c0, .slice h.a1 h.n1 h.c1, .bool h.b, .slice h.a2 h.n2 h.c2, .int .i64 ep, .slice la ln lc, .int .i64 su, .slice fa fn fc, .int .i64 ha]) (o : w.ownsRow base 78 10 (.slice la ln lc) ln (cellsQ L)) (hg : ∀ x, ob la = some x → x ≠ g) (hbase : base ≤ w.heap.size) (hln : ln ≤ 1048576) (hbs : b.size ≤ 1048576) (has : a.size ≤ 1048576) :
    Calls Tryz.prog 100 #[.pointer (some ⟨g, 0, none⟩), .agg #[.int .i64 e, .int .i64 l, .int .i64 t, .int .i64 k, .int .i64 p, .int .i64 n, .int .i64 q, .int .i64 s, .string b, .string a]] w (AddPost w g base h ep la su fa fn fc ha (addL ep L (⟨e, l, t, k, p, n, q, s, b, a⟩ : DR))) := by
  have hL : L.length = ln := by have := o.1; rw [cellsQ_len] at this; omega
  have HA : Hid (∀ P : List DR × Int → Prop, (ln = 60 → P (L, 7)) → (ln ≠ 60 → okLR (⟨ep, ((ln : Int) + 1), t, k, p, n, q, s, b, a⟩ : DR) = true → P (L ++ [(⟨ep, ((ln : Int) + 1), t, k, p, n, q, s, b, a⟩ : DR)], 0)) → (ln ≠ 60 → okLR (⟨ep, ((ln : Int) + 1), t, k, p, n, q, s, b, a⟩ : DR) = false → P (L, 3)) → P (addL ep L (⟨e, l, t, k, p, n, q, s, b, a⟩ : DR))) := by
    intro P h1 h2 h3
    unfold addL
    rw [hL]
    by_cases c : ln = 60
    · rw [if_pos c]; exact h1 c
    · rw [if_neg c]
      cases d : okLR (⟨ep, ((ln : Int) + 1), t, k, p, n, q, s, b, a⟩ : DR)
      · rw [if_neg (by simp)]; exact h3 c d
      · rw [if_pos rfl]; exact h2 c d
  obtain ⟨A, hA⟩ : ∃ A, A = addL ep L (⟨e, l, t, k, p, n, q, s, b, a⟩ : DR) := ⟨_, rfl⟩
  rw [← hA] at HA ⊢
  clear hA
  have gl : g < w.heap.size := X.lt
  obtain ⟨V, hV⟩ : ∃ V, w.alloc (.cells #[.int .i64 e, .int .i64 l, .int .i64 t, .int .i64 k, .int .i64 p, .int .i64 n, .int .i64 q, .int .i64 s, .string b, .string a] 78) = V := ⟨_, rfl⟩
  have XV : Hid (Box V g 46 #[.slice h.a0 h.n0 h.c0, .slice h.a1 h.n1 h.c1, .bool h.b, .slice h.a2 h.n2 h.c2, .int .i64 ep, .slice la ln lc, .int .i64 su, .slice fa fn fc, .int .i64 ha]) := by unfold Hid; rw [← hV]; exact X.alloc _
  have RV : Hid (Box V w.heap.size 78 #[.int .i64 e, .int .i64 l, .int .i64 t, .int .i64 k, .int .i64 p, .int .i64 n, .int .i64 q, .int .i64 s, .string b, .string a]) := by unfold Hid; rw [← hV]; exact Box.new _ _ _
  have KV : Hid (∀ x, x < w.heap.size → V.heap[x]? = w.heap[x]?) := by unfold Hid; intro x hx; rw [← hV]; exact Below.heap_alloc w _ x hx
  have SV : Hid (V.heap.size = w.heap.size + 1) := by unfold Hid; rw [← hV]; simp
  have BV : Hid (∀ B v, Below B v w → B ≤ w.heap.size → Below B v V) := by unfold Hid; intro B v hb h1; rw [← hV]; exact hb.alloc h1 _
  have HO : Hid (w.ownsRow base 78 10 (.slice la ln lc) ln (cellsQ L)) := o
  have HG : Hid (∀ x, ob la = some x → x ≠ g) := hg
  have HLN : Hid (L.length = ln) := hL
  have LO : Hid (∀ x, ob la = some x → base ≤ x ∧ x < w.heap.size) := fun x ex => o.lt x (by rw [ob_slice]; exact ex)
  clear o hg hL X
  obtain ⟨v0, v1, v2, v3, v4, v5, v6, v7, v8⟩ := box9 XV.out
  obtain ⟨r0, r1, r2, r3, r4, r5, r6, r7, r8, r9⟩ := box10 RV.out
  have z0 := RV.out.thaw 0
  have z1 := RV.out.thaw 1
  have OV : Hid (V.ownsRow base 78 10 (.slice la ln lc) ln (cellsQ L)) := own_same HO.out fun x ex => by rw [ob_slice] at ex; exact KV.out x (LO.out x ex).2
  go_enter Tryz.func100, Tryz.ntmps100
  by_cases c60 : ln = 60
  · subst c60
    go_wp2
    go_ret
    refine HA.out (fun A => AddPost w g base h ep la su fa fn fc ha A (.returned (.int .i64 7)) V) (fun _ => ?_) (fun x => absurd rfl x) (fun x => absurd rfl x)
    have hl := HLN.out
    refine ⟨la, lc, rfl, ?_, ?_, fun x ex => Or.inl ex, fun x a _ _ => KV.out x a, by have := SV.out; omega, fun B v hb _ h1 _ => BV.out B v hb h1⟩
    · dsimp only; rw [hl]; exact XV.out
    · dsimp only; rw [hl]; exact OV.out
  have c60' : ¬ ((ln : Int) = 60) := by omega
  go_wp2_with fail
  have hW : IntKind.i64.wrap ((ln : Int) + 1) = (ln : Int) + 1 := by rw [IntKind.wrap_i64]; omega
  have CW : Hid (∀ W : World, Calls Tryz.prog 186 #[.agg #[.int .i64 ep, .int .i64 ((ln : Int) + 1), .int .i64 t, .int .i64 k, .int .i64 p, .int .i64 n, .int .i64 q, .int .i64 s, .string b, .string a]] W fun e' w' => e' = .returned (.bool (okLR (⟨ep, ((ln : Int) + 1), t, k, p, n, q, s, b, a⟩ : DR))) ∧ Below W.heap.size W w') := fun W => c_implLR ep ((ln : Int) + 1) t k p n q s b a W (by unfold maxLen; omega) (by unfold maxLen; omega)
  obtain ⟨iQ, giQ, gzQ0, gzQ1, gzQ2⟩ := info_parts infoQ
  have hiQ : Hid (Tryz.prog.info? 78 = some iQ) := giQ
  have hzQ0 : Hid (iQ.zero = some (.agg #[.int .i64 0, .int .i64 0, .int .i64 0, .int .i64 0, .int .i64 0, .int .i64 0, .int .i64 0, .int .i64 0, .string ⟨#[]⟩, .string ⟨#[]⟩])) := gzQ0
  have hzQ1 : Hid (iQ.size = 10) := gzQ1
  have hzQ2 : Hid (iQ.bytes = 96) := gzQ2
  clear giQ gzQ0 gzQ1 gzQ2
  go_region_with fail
  all_goals
    obtain ⟨V3, hV3⟩ : ∃ V3, ((V.setCell ⟨w.heap.size, 1, none⟩ (.int .i64 ((ln : Int) + 1))).setCell ⟨w.heap.size, 0, none⟩ (.int .i64 ep)).drew = V3 := ⟨_, rfl⟩
    have K3 : Hid (∀ x, x ≠ w.heap.size → V3.heap[x]? = V.heap[x]?) := by unfold Hid; intro x hx; rw [← hV3]; show ((V.setCell _ _).setCell _ _).heap[x]? = _; rw [Below.heap_setCell _ _ _ _ hx, Below.heap_setCell _ _ _ _ hx]
    have S3 : Hid (V3.heap.size = w.heap.size + 1) := by unfold Hid; rw [← SV.out, ← hV3]; show ((V.setCell _ _).setCell _ _).heap.size = _; simp
    have X3 : Hid (Box V3 g 46 #[.slice h.a0 h.n0 h.c0, .slice h.a1 h.n1 h.c1, .bool h.b, .slice h.a2 h.n2 h.c2, .int .i64 ep, .slice la ln lc, .int .i64 su, .slice fa fn fc, .int .i64 ha]) := (K3.out g (by omega)).trans XV.out
    have R3 : Hid (Box V3 w.heap.size 78 #[.int .i64 ep, .int .i64 ((ln : Int) + 1), .int .i64 t, .int .i64 k, .int .i64 p, .int .i64 n, .int .i64 q, .int .i64 s, .string b, .string a]) := by
      have := ((RV.out.set 1 (.int .i64 ((ln : Int) + 1))).set 0 (.int .i64 ep)).drewN 1
      have e : (((V.setCell ⟨w.heap.size, 1, none⟩ (.int .i64 ((ln : Int) + 1))).setCell ⟨w.heap.size, 0, none⟩ (.int .i64 ep)).drewN 1) = V3 := hV3
      rw [e] at this
      simpa [Hid] using this
    have B3 : Hid (∀ B v, Below B v w → B ≤ w.heap.size → Below B v V3) := by unfold Hid; intro B v hb h1; rw [← hV3]; exact (((BV.out B v hb h1).setCell h1 _).setCell h1 _).drew
    have O3 : Hid (V3.ownsRow base 78 10 (.slice la ln lc) ln (cellsQ L)) := own_same OV.out fun x ex => by rw [ob_slice] at ex; exact K3.out x (by have := LO.out x ex; omega)
    have KW : Hid (∀ x, x < w.heap.size → V3.heap[x]? = w.heap[x]?) := fun x hx => (K3.out x (by omega)).trans (KV.out x hx)
    have s3 : w.heap.size < V3.heap.size := by have := S3.out; omega
    have s3' : g < V3.heap.size := by omega
    rw [hV3]
    clear hV3 K3 XV RV BV OV KV SV hV z0 z1 v0 v1 v2 v3 v4 v5 v6 v7 v8 r0 r1 r2 r3 r4 r5 r6 r7 r8 r9
    have C := CW.out V3
    obtain ⟨v0, v1, v2, v3, v4, v5, v6, v7, v8⟩ := box9 X3.out
    obtain ⟨r0, r1, r2, r3, r4, r5, r6, r7, r8, r9⟩ := box10 R3.out
    go_wp2_with fail
    refine C.mono ?_
    rintro e' w4 ⟨rfl, hb⟩
    have X4 : Hid (Box w4 g 46 #[.slice h.a0 h.n0 h.c0, .slice h.a1 h.n1 h.c1, .bool h.b, .slice h.a2 h.n2 h.c2, .int .i64 ep, .slice la ln lc, .int .i64 su, .slice fa fn fc, .int .i64 ha]) := X3.out.belowS hb
    have R4 : Hid (Box w4 w.heap.size 78 #[.int .i64 ep, .int .i64 ((ln : Int) + 1), .int .i64 t, .int .i64 k, .int .i64 p, .int .i64 n, .int .i64 q, .int .i64 s, .string b, .string a]) := R3.out.belowS hb
    have O4 : Hid (w4.ownsRow base 78 10 (.slice la ln lc) ln (cellsQ L)) := own_below O3.out hb
    have s4 : V3.heap.size ≤ w4.heap.size := hb.size
    have KW4 : Hid (∀ x, x < w.heap.size → w4.heap[x]? = w.heap[x]?) := fun x hx => (hb.block x (by omega)).trans (KW.out x hx)
    have B4 : Hid (∀ B v, Below B v w → B ≤ w.heap.size → Below B v w4) := fun B v hb0 h1 => (B3.out B v hb0 h1).trans (hb.mono (by omega))
    clear hb X3 R3 O3 KW B3 C CW v0 v1 v2 v3 v4 v5 v6 v7 v8 r0 r1 r2 r3 r4 r5 r6 r7 r8 r9
    have gl4 : g < w4.heap.size := by omega
    have wl4 : w.heap.size < w4.heap.size := by omega
    obtain ⟨v0, v1, v2, v3, v4, v5, v6, v7, v8⟩ := box9 X4.out
    obtain ⟨r0, r1, r2, r3, r4, r5, r6, r7, r8, r9⟩ := box10 R4.out
    cases hok : okLR (⟨ep, ((ln : Int) + 1), t, k, p, n, q, s, b, a⟩ : DR)
    · go_wp2
      go_ret
      refine HA.out (fun A => AddPost w g base h ep la su fa fn fc ha A (.returned (.int .i64 3)) w4) (fun x => absurd x c60) (fun _ x => by rw [hok] at x; cases x) (fun _ _ => ?_)
      have hl := HLN.out
      refine ⟨la, lc, rfl, ?_, ?_, fun x ex => Or.inl ex, fun x a _ _ => KW4.out x a, by omega, fun B v hb _ h1 _ => B4.out B v hb h1⟩
      · dsimp only; rw [hl]; exact X4.out
      · dsimp only; rw [hl]; exact O4.out
    · have HOK : Hid (okLR (⟨ep, ((ln : Int) + 1), t, k, p, n, q, s, b, a⟩ : DR) = true) := hok
      obtain ⟨VA, hVA⟩ : ∃ VA, w4.alloc (.cells #[.int .i64 ep, .int .i64 ((ln : Int) + 1), .int .i64 t, .int .i64 k, .int .i64 p, .int .i64 n, .int .i64 q, .int .i64 s, .string b, .string a] 78) = VA := ⟨_, rfl⟩
      have KA : Hid (∀ x, x < w4.heap.size → VA.heap[x]? = w4.heap[x]?) := by unfold Hid; intro x hx; rw [← hVA]; exact Below.heap_alloc w4 _ x hx
      have SA : VA.heap.size = w4.heap.size + 1 := by rw [← hVA]; simp
      have XA : Hid (Box VA g 46 #[.slice h.a0 h.n0 h.c0, .slice h.a1 h.n1 h.c1, .bool h.b, .slice h.a2 h.n2 h.c2, .int .i64 ep, .slice la ln lc, .int .i64 su, .slice fa fn fc, .int .i64 ha]) := (KA.out g gl4).trans X4.out
      have RA : Hid (Box VA w4.heap.size 78 #[.int .i64 ep, .int .i64 ((ln : Int) + 1), .int .i64 t, .int .i64 k, .int .i64 p, .int .i64 n, .int .i64 q, .int .i64 s, .string b, .string a]) := by unfold Hid; rw [← hVA]; exact Box.new _ _ _
      have OA : Hid (VA.ownsRow base 78 10 (.slice la ln lc) ln (cellsQ L)) := own_same O4.out fun x ex => by rw [ob_slice] at ex; exact KA.out x (by have := LO.out x ex; omega)
      have BA : Hid (∀ B v, Below B v w → B ≤ w.heap.size → Below B v VA) := by unfold Hid; intro B v hb h1; rw [← hVA]; exact (B4.out B v hb h1).alloc (by omega) _
      have NA : Hid (∀ ad, some (⟨w4.heap.size, 0, none⟩ : Addr) = some ad → ∀ j u, (cQ (⟨ep, ((ln : Int) + 1), t, k, p, n, q, s, b, a⟩ : DR))[j]? = some u → VA.cell? (ad.add j) = some u) := by
        intro ad ea j u hj
        cases ea
        have hx := boxR (v := (⟨ep, ((ln : Int) + 1), t, k, p, n, q, s, b, a⟩ : DR)) RA.out j u hj
        rw [Nat.zero_add] at hx
        by_cases j0 : j = 0
        · subst j0; simpa [Addr.add] using hx
        · simpa [Addr.add, j0] using hx
      obtain ⟨x0, x1, x2, x3, x4, x5, x6, x7, x8⟩ := box9 XA.out
      go_wp2_with fail
      go_region_law (
        refine step_app_any _ (by rfl) (.tmp 30) (.tmp 32) 43 (by rfl) base 78 iQ (.agg #[.int .i64 0, .int .i64 0, .int .i64 0, .int .i64 0, .int .i64 0, .int .i64 0, .int .i64 0, .int .i64 0, .string ⟨#[]⟩, .string ⟨#[]⟩]) 10 96 Tryz.underlying43 hiQ.out hzQ0.out hzQ1.out hzQ2.out rfl (by omega) (.slice la ln lc) ln (cellsQ L) (by rfl) (by exact OA.out) (some ⟨w4.heap.size, 0, none⟩) 1 1 (cQ (⟨ep, ((ln : Int) + 1), t, k, p, n, q, s, b, a⟩ : DR)) (by rfl) (fun ex => by cases ex) rfl (by exact NA.out) (cQ_one _) (by unfold maxLen; omega) (by omega) (by show base ≤ VA.heap.size; omega) ?_
        intro l2 lc2 w5 ho hgx hax
        rw [ob_slice] at hgx hax
        have hg5 : VA.grownBy w5 (ob la) := ⟨hgx.os, hgx.tape, hgx.output, hgx.size, hgx.block⟩
        have HA5 : Hid (∀ x, ob l2 = some x → ob la = some x ∨ x = VA.heap.size) := hax
        have HO5 : Hid (w5.ownsRow base 78 10 (.slice l2 (ln + 1) lc2) (ln + 1) (cellsQ L ++ cQ (⟨ep, ((ln : Int) + 1), t, k, p, n, q, s, b, a⟩ : DR))) := ho
        have HG5 : Hid (VA.grownBy w5 (ob la)) := hg5
        have HX5 : Hid (Box w5 g 46 #[.slice h.a0 h.n0 h.c0, .slice h.a1 h.n1 h.c1, .bool h.b, .slice h.a2 h.n2 h.c2, .int .i64 ep, .slice la ln lc, .int .i64 su, .slice fa fn fc, .int .i64 ha]) := XA.out.grown hg5 (fun ex => HG.out g ex rfl)
        have X5 : Box w5 g 46 #[.slice h.a0 h.n0 h.c0, .slice h.a1 h.n1 h.c1, .bool h.b, .slice h.a2 h.n2 h.c2, .int .i64 ep, .slice la ln lc, .int .i64 su, .slice fa fn fc, .int .i64 ha] := XA.out.grown hg5 (fun ex => HG.out g ex rfl)
        have z5 := X5.thaw 5
        obtain ⟨y0, y1, y2, y3, y4, y5, y6, y7, y8⟩ := box9 X5
        clear ho hgx hax hg5 X5)
      all_goals
        go_wp2
        go_ret
        refine HA.out (fun A => AddPost w g base h ep la su fa fn fc ha A (.returned (.int .i64 0)) (w5.setCell ⟨g, 5, none⟩ (.slice l2 (ln + 1) lc2))) (fun x => absurd x c60) (fun _ _ => ?_) (fun _ x => by have := HOK.out; rw [this] at x; cases x)
        have hl : (L ++ [(⟨ep, ((ln : Int) + 1), t, k, p, n, q, s, b, a⟩ : DR)]).length = ln + 1 := by rw [List.length_append, HLN.out]; rfl
        have s5 := HG5.out.size
        have nl : ∀ x, ob l2 = some x → x ≠ g := fun x ex => by
          rcases HA5.out x ex with q1 | q1
          · exact HG.out x q1
          · omega
        refine ⟨l2, lc2, rfl, ?_, ?_, fun x ex => ?_, fun x a1 a2 a3 => ?_, by simp; omega, fun B v hb h0 h1 h2 => ?_⟩
        · dsimp only
          rw [hl]
          have := HX5.out.set 5 (.slice l2 (ln + 1) lc2)
          simpa using this
        · dsimp only
          rw [hl, cellsQ_snoc]
          exact own_same HO5.out fun x ex => by rw [ob_slice] at ex; exact Below.heap_setCell _ _ _ _ (nl x ex)
        · rcases HA5.out x ex with q1 | q1
          · exact Or.inl q1
          · right; omega
        · rw [Below.heap_setCell _ _ _ _ a2, HG5.out.block x (by omega) (fun ex => a3 ex.symm), KA.out x (by omega)]
          exact KW4.out x a1
        · exact ((BA.out B v hb h1).grown HG5.out (by omega) (fun x ex => h2 x (by first | exact ex | exact ex.symm))).setCell h0 _

end Go.Proofs.YtkpopingbbaomaaGreatDoor
