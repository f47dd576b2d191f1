/-
  The values of a run: pop and put.
-/
import Derived.Test.YtcgcaomaofppiaaDoorDa
import Derived.Deep.RegionHeld3
import Derived.Deep.RegionLaw
import Derived.Laws.AppendOwn
import Derived.Laws.AppendOwnNone
import Derived.Maps.AppendAt
namespace Go.Proofs.YtcgcaomaofppiaaDoor
open Go Go.RowKit
attribute [local go_sem ↓] Go.wp_at_zero Go.wp_at_succ

set_option linter.unusedVariables false
set_option linter.unusedSimpArgs false
theorem step_app_any {P : Program} (w : World) {ops : Array Oper} {o : Oper} {a : Act} {K : Act → World → Prop} {Q : Exit → Act → World → Prop} {E : Prop} (hgd : o.guard = none) (s x : Operand) (t : TypeId)
    (ho : o.op = .call { callee := .builtin .append, args := #[s, x], argTypes := #[t, t] })
    (base : Nat) (e : TypeId) (i : TypeInfo) (z : Value) (size bytes : Nat) (ht : P.underlying t = some (.slice e)) (hi : P.info? e = some i) (hz : i.zero = some z)
    (hsize : i.size = size) (hby : i.bytes = bytes) (hzs : z.cells.size = size) (hsz : 0 < size)
    (v : Value) (n : Nat) (xs : List Value) (hs : a.eval s = v) (hown : w.ownsRow base e size v n xs)
    (ax : Option Addr) (m c : Nat) (news : List Value) (hx : a.eval x = .slice ax m c) (hnone : ax = none → m = 0 ∧ c = 0) (hl : news.length = m * size) (hnews : ∀ ad, ax = some ad → ∀ j u, news[j]? = some u → w.cell? (ad.add j) = some u) (h1 : ∀ u ∈ news, u.oneCell' = true)
    (h63 : n + m ≤ maxLen) (hbytes : (n + m) * bytes ≤ 140737488355328) (hbase : base ≤ w.heap.size)
    (h : ∀ a' c' w', w'.ownsRow base e size (.slice a' (n + m) c') (n + m) (xs ++ news) → w.grownBy w' v.ownBlock → (∀ g, ob a' = some g → v.ownBlock = some g ∨ g = w.heap.size) → K (a.put o.dst (.slice a' (n + m) c')) w') :
    if Region.wanted o (yielded ops a.tmps) = true then Oper.wp P o a w K Q else E := by
  have hw : Region.wanted o (yielded ops a.tmps) = true := by simp [Region.wanted, hgd]
  rw [if_pos hw]
  cases ax with
  | none =>
    obtain ⟨rfl, rfl⟩ := hnone rfl
    have hn : news = [] := List.eq_nil_of_length_eq_zero (by simpa using hl)
    subst hn
    obtain ⟨a', c', rfl, _⟩ := own_slc hown
    have hrun := run_append_owned_none (P := P) (w := w) base t o.type e i size ht hi _ n xs hown
    unfold Oper.wp execOp
    simp only [ho, resolve, invoke, builtin, Sem.run_bind, Sem.run_pure, Result.andThen_ok, List.map_toArray, List.map_cons, List.map_nil, hs, hx, hrun]
    exact h a' c' w (by simpa using hown) (World.grownBy.refl _ _) (fun g e => .inl (by rw [ob_slice]; exact e))
  | some ad =>
    obtain ⟨v', w', hr, hown', hgr, _, hblk⟩ := run_append_own_at (P := P) w base t o.type e i z size bytes ht hi hz hsize hby hzs hsz v n xs hown ad m c news hl (hnews ad rfl) h1 h63 hbytes hbase
    obtain ⟨a', c', rfl, _⟩ := own_slc hown'
    rw [ob_slice] at hblk
    unfold Oper.wp execOp
    simp only [ho, resolve, invoke, builtin, Sem.run_bind, Sem.run_pure, Result.andThen_ok, List.map_toArray, List.map_cons, List.map_nil, hs, hx, hr]
    exact h a' c' w' hown' hgr (fun g e => hblk.elim (fun k => .inl (k ▸ e)) (fun k => .inr (Option.some.inj (e.symm.trans k))))

theorem box9 {w : World} {g : Nat} {t : TypeId} {v0 v1 v2 v3 v4 v5 v6 v7 v8 : Value} (h : Box w g t #[v0, v1, v2, v3, v4, v5, v6, v7, v8]) : w.cell? ⟨g, 0, none⟩ = some v0 ∧ w.cell? ⟨g, 1, none⟩ = some v1 ∧ w.cell? ⟨g, 2, none⟩ = some v2 ∧ w.cell? ⟨g, 3, none⟩ = some v3 ∧ w.cell? ⟨g, 4, none⟩ = some v4 ∧ w.cell? ⟨g, 5, none⟩ = some v5 ∧ w.cell? ⟨g, 6, none⟩ = some v6 ∧ w.cell? ⟨g, 7, none⟩ = some v7 ∧ w.cell? ⟨g, 8, none⟩ = some v8 := ⟨h.cell 0, h.cell 1, h.cell 2, h.cell 3, h.cell 4, h.cell 5, h.cell 6, h.cell 7, h.cell 8⟩
theorem box9_set7 {w : World} {g : Nat} {t : TypeId} {v0 v1 v2 v3 v4 v5 v6 v7 v8 : Value} (h : Box w g t #[v0, v1, v2, v3, v4, v5, v6, v7, v8]) (x : Value) : Box (w.setCell ⟨g, 7, none⟩ x) g t #[v0, v1, v2, v3, v4, v5, v6, x, v8] := by
  have := h.set 7 x
  simpa using this
theorem box9_set8 {w : World} {g : Nat} {t : TypeId} {v0 v1 v2 v3 v4 v5 v6 v7 v8 : Value} (h : Box w g t #[v0, v1, v2, v3, v4, v5, v6, v7, v8]) (x : Value) : Box (w.setCell ⟨g, 8, none⟩ x) g t #[v0, v1, v2, v3, v4, v5, v6, v7, x] := by
  have := h.set 8 x
  simpa using this
/-- A run at block c, its values in blocks from B on. -/
structure CRun (w : World) (c B : Nat) (i : Int) (u v : VV) (S : List SV) (nx : Int) (a : Option Addr) (cap : Nat) : Prop where
  x : Box w c 64 #[.int .i64 i, .int .i64 u.1, .int .i64 u.2.1, .string u.2.2, .int .i64 v.1, .int .i64 v.2.1, .string v.2.2, .slice a S.length cap, .int .i64 nx]
  r : w.ownsRow B 29 3 (.slice a S.length cap) S.length (cellsC S)
/-- Below B nothing is changed but block c. -/
structure LowB (c B : Nat) (w w' : World) : Prop where
  os : w'.os = w.os
  tape : w'.tape = w.tape
  output : w'.output = w.output
  size : w.heap.size ≤ w'.heap.size
  block : ∀ k, k < B → k ≠ c → w'.heap[k]? = w.heap[k]?
theorem LowB.trans {c B : Nat} {x y z : World} (h : LowB c B x y) (k : LowB c B y z) : LowB c B x z :=
  ⟨k.os.trans h.os, k.tape.trans h.tape, k.output.trans h.output, Nat.le_trans h.size k.size, fun j hj hc => (k.block j hj hc).trans (h.block j hj hc)⟩
theorem LowB.of {c B : Nat} {w w' : World} (h : Below w.heap.size w w') (hB : B ≤ w.heap.size) : LowB c B w w' := ⟨h.os, h.tape, h.output, h.size, fun k hk _ => h.block k (by omega)⟩
theorem LowB.mono {c B B' : Nat} {w w' : World} (h : LowB c B' w w') (hB : B ≤ B') : LowB c B w w' := ⟨h.os, h.tape, h.output, h.size, fun k hk hc => h.block k (by omega) hc⟩
theorem LowB.below {c B b : Nat} {w w' : World} (h : LowB c B w w') (hb : b ≤ c) (hB : b ≤ B) : Below b w w' := ⟨h.os, h.tape, h.output, h.size, fun k hk => h.block k (by omega) (by omega)⟩
theorem LowB.box {c B g : Nat} {w w' : World} {t : TypeId} {x : Array Value} (h : LowB c B w w') (hx : Box w g t x) (hg : g < B) (hc : g ≠ c) : Box w' g t x := (h.block g hg hc).trans hx
theorem LowB.set {c B : Nat} {w w' : World} (h : LowB c B w w') (p : Addr) (x : Value) (hp : p.block = c ∨ B ≤ p.block) : LowB c B w (w'.setCell p x) :=
  ⟨h.os, h.tape, h.output, by simpa using h.size, fun k hk hc => (Below.heap_setCell w' p x k (by omega)).trans (h.block k hk hc)⟩
theorem CRun.below {w w' : World} {c B : Nat} {i : Int} {u v : VV} {S : List SV} {nx : Int} {a : Option Addr} {cap : Nat} (h : CRun w c B i u v S nx a cap) (hb : Below w.heap.size w w') : CRun w' c B i u v S nx a cap := ⟨h.x.belowS hb, own_below h.r hb⟩
theorem cellsC_snoc (S : List SV) (x : SV) : cellsC (S ++ [x]) = cellsC S ++ cC x := by simp [cellsC]
theorem cellsC_take (S : List SV) : (cellsC S).take (S.dropLast.length * 3) = cellsC S.dropLast := by
  rcases List.eq_nil_or_concat S with rfl | ⟨T, x, rfl⟩
  · rfl
  · rw [List.concat_eq_append, List.dropLast_concat, cellsC_snoc, ← cellsC_len, List.take_left]
theorem own_cut {w : World} {B : Nat} {a : Option Addr} {cap : Nat} {S : List SV} (h : w.ownsRow B 29 3 (.slice a S.length cap) S.length (cellsC S)) (h0 : 0 < S.length) : w.ownsRow B 29 3 (.slice a S.dropLast.length cap) S.dropLast.length (cellsC S.dropLast) := by
  obtain ⟨h1, h2⟩ := h
  rcases h2 with ⟨e, e0⟩ | ⟨g, c, cur, hv, hb, hg, hn, hm, hs, ht⟩
  · omega
  · simp only [Value.slice.injEq] at hv
    obtain ⟨rfl, _, rfl⟩ := hv
    have hd : S.dropLast.length ≤ S.length := by simp
    refine ⟨cellsC_len _, .inr ⟨g, cap, cur, rfl, hb, hg, by omega, hm, hs, ?_⟩⟩
    rw [← cellsC_take, ← ht, List.take_take, Nat.min_eq_left (by omega)]
theorem own_top {w : World} {B : Nat} {a : Option Addr} {cap : Nat} {S : List SV} (h : w.ownsRow B 29 3 (.slice a S.length cap) S.length (cellsC S)) (h0 : 0 < S.length) :
    ∃ g, a = some ⟨g, 0, none⟩ ∧ B ≤ g ∧ g < w.heap.size ∧ ∀ q, q < S.length → w.cell? ⟨g, q * 3, none⟩ = some (.int .i64 (S.getD q zeroC).k) ∧ w.cell? ⟨g, q * 3 + 1, none⟩ = some (.int .i64 (S.getD q zeroC).n) ∧ w.cell? ⟨g, q * 3 + 2, none⟩ = some (.string (S.getD q zeroC).t) ∧ w.frozen? ⟨g, q * 3, none⟩ = false ∧ w.frozen? ⟨g, q * 3 + 1, none⟩ = false ∧ w.frozen? ⟨g, q * 3 + 2, none⟩ = false := by
  rcases own_form h with ⟨_, e⟩ | ⟨g, c, hv, hb, hl⟩
  · omega
  · simp only [Value.slice.injEq] at hv
    obtain ⟨rfl, _, rfl⟩ := hv
    refine ⟨g, rfl, hb, hl, fun q hq => ?_⟩
    have e := fun j (hj : j < 3) => (h.cellAt (q * 3 + j) (by omega)).trans (cellsC_get S q hq j hj)
    exact ⟨e 0 (by omega), e 1 (by omega), e 2 (by omega), h.frozenAt _, h.frozenAt _, h.frozenAt _⟩
theorem cap_le {w : World} {B : Nat} {a : Option Addr} {cap n : Nat} {xs : List Value} (h : w.ownsRow B 29 3 (.slice a n cap) n xs) : n ≤ cap := by
  obtain ⟨_, h2⟩ := h
  rcases h2 with ⟨e, e0⟩ | ⟨g, c, cur, hv, hb, hg, hn, hm, hs, ht⟩
  · cases e; omega
  · simp only [Value.slice.injEq] at hv
    obtain ⟨rfl, _, rfl⟩ := hv
    exact hn
set_option maxRecDepth 100000 in
set_option maxHeartbeats 4000000 in
theorem c_pop (c B : Nat) (i : Int) (u v : VV) (S : List SV) (nx : Int) (a : Option Addr) (cap : Nat) (w : World) (h : CRun w c B i u v S nx a cap) (hcB : c < B) (hB : B ≤ w.heap.size) (h0 : 0 < S.length) (hs : S.length ≤ 1000) :
    Calls Tryd.prog 55 #[.pointer (some ⟨c, 0, none⟩)] w fun e w' => e = .returned (.agg #[.int .i64 (lastS S).k, .int .i64 (lastS S).n, .string (lastS S).t]) ∧ CRun w' c B i u v S.dropLast nx a cap ∧ LowB c w.heap.size w w' := by
  obtain ⟨g, rfl, hBg, hgl, hq⟩ := own_top h.r h0
  have cl := cap_le h.r
  obtain ⟨m, hm⟩ : ∃ m, S.length = m + 1 := ⟨S.length - 1, by omega⟩
  obtain ⟨q0, q1, q2, _, _, _⟩ := hq m (by omega)
  have hT : lastS S = S.getD m zeroC := by unfold lastS; rw [hm]; rfl
  have hD : S.dropLast.length = m := by simp; omega
  have O1 := own_cut h.r h0
  rw [← hT] at q0 q1 q2
  rw [hD] at O1
  obtain ⟨T, hTT⟩ : ∃ T, lastS S = T := ⟨_, rfl⟩
  rw [hTT] at q0 q1 q2 ⊢
  have hx := h.x
  rw [hm] at hx cl
  obtain ⟨V, hV⟩ : ∃ V, (w.alloc (.cells #[.int .i64 0, .int .i64 0, .string ⟨#[]⟩] 29)).alloc (.cells #[.int .i64 T.k, .int .i64 T.n, .string T.t] 29) = V := ⟨_, rfl⟩
  have bV : Below w.heap.size w V := by rw [← hV]; exact ((Below.refl _ _).alloc (Nat.le_refl _) _).alloc (by simp) _
  have ZV : Hid (Box V w.heap.size 29 #[.int .i64 0, .int .i64 0, .string ⟨#[]⟩]) := by unfold Hid; rw [← hV]; exact (Box.new _ _ _).alloc _
  have TV : Hid (Box V (w.heap.size + 1) 29 #[.int .i64 T.k, .int .i64 T.n, .string T.t]) := by unfold Hid; rw [← hV]; exact Box.new2 _ _ _ _
  have XV : Hid (Box V c 64 #[.int .i64 i, .int .i64 u.1, .int .i64 u.2.1, .string u.2.2, .int .i64 v.1, .int .i64 v.2.1, .string v.2.2, .slice (some ⟨g, 0, none⟩) (m + 1) cap, .int .i64 nx]) := hx.belowS bV
  have OV : Hid (V.ownsRow B 29 3 (.slice (some ⟨g, 0, none⟩) m cap) m (cellsC S.dropLast)) := own_below O1 bV
  have HB : Hid (Below w.heap.size w V) := bV
  have HD : Hid (S.dropLast.length = m) := hD
  have lc : c < w.heap.size := hx.lt
  have x7w : w.cell? ⟨c, 7, none⟩ = some (.slice (some ⟨g, 0, none⟩) (m + 1) cap) := hx.cell 7
  have x7 : V.cell? ⟨c, 7, none⟩ = some (.slice (some ⟨g, 0, none⟩) (m + 1) cap) := XV.out.cell 7
  have f7 := XV.out.thaw 7
  obtain ⟨z0, z1, z2⟩ := box3 ZV.out
  obtain ⟨y0, y1, y2⟩ := box3 TV.out
  have a0 := ZV.out.thaw 0
  have a1 := ZV.out.thaw 1
  have a2 := ZV.out.thaw 2
  have e1 : (m : Int) + 1 - 1 = m := by omega
  have g1 : (0 : Int) ≤ (m : Int) := by omega
  have g2 : (m : Int) < (m : Int) + 1 := by omega
  have g3 : (m : Int) ≤ (cap : Int) := by omega
  have hm9 : m < 1000 := by omega
  clear h hq hT hTT hD O1 hx bV h0 hm
  go_enter Tryd.func55, Tryd.ntmps55
  go_wp2
  have gn : g ≠ w.heap.size := by omega
  refine ret3v Tryd.results55 rfl rfl (put3_box (ZV.out.setOther _ _ (by show w.heap.size ≠ c; omega)) _ _ _) ⟨rfl, ⟨?_, ?_⟩, ?_⟩
  · rw [HD.out]
    exact (((box9_set7 XV.out _).setOther _ _ (by show c ≠ w.heap.size; omega)).setOther _ _ (by show c ≠ w.heap.size; omega)).setOther _ _ (by show c ≠ w.heap.size; omega)
  · rw [HD.out]
    refine own_same OV.out fun j ej => ?_
    have ej' : g = j := Option.some.inj ej
    subst ej'
    rw [Below.heap_setCell _ _ _ _ (by show g ≠ w.heap.size; omega), Below.heap_setCell _ _ _ _ (by show g ≠ w.heap.size; omega), Below.heap_setCell _ _ _ _ (by show g ≠ w.heap.size; omega), Below.heap_setCell _ _ _ _ (by show g ≠ c; omega)]
  · refine LowB.set (LowB.set (LowB.set (LowB.set (LowB.of HB.out (Nat.le_refl _)) _ _ ?_) _ _ ?_) _ _ ?_) _ _ ?_
    · exact .inl rfl
    all_goals exact .inr (Nat.le_refl _)
theorem oneC (x : SV) : ∀ y ∈ cC x, y.oneCell' = true := by
  intro y hy
  simp only [cC, List.mem_cons, List.not_mem_nil, or_false] at hy
  rcases hy with rfl | rfl | rfl <;> rfl
theorem infoC : (Tryd.prog.info? 29).map (fun i => (i.zero, i.size, i.bytes)) = some (some (.agg #[.int .i64 0, .int .i64 0, .string ⟨#[]⟩]), 3, 32) := by kernel_rfl
set_option maxRecDepth 100000 in
set_option maxHeartbeats 4000000 in
theorem c_put (c B : Nat) (i : Int) (u v : VV) (S : List SV) (nx : Int) (a : Option Addr) (cap : Nat) (w : World) (h : CRun w c B i u v S nx a cap) (hcB : c < B) (hB : B ≤ w.heap.size) (x : SV) (hs : S.length ≤ 1000) :
    Calls Tryd.prog 74 #[.pointer (some ⟨c, 0, none⟩), .agg #[.int .i64 x.k, .int .i64 x.n, .string x.t]] w fun e w' => (∃ r, e = .returned r) ∧ (∃ a' cap', CRun w' c B i u v (S ++ [x]) nx a' cap') ∧ LowB c B w w' := by
  obtain ⟨iV, giV, gz0, gz1, gz2⟩ := info_parts infoC
  have hiV : Hid (Tryd.prog.info? 29 = some iV) := giV
  have hz0 : Hid (iV.zero = some (.agg #[.int .i64 0, .int .i64 0, .string ⟨#[]⟩])) := gz0
  have hz1 : Hid (iV.size = 3) := gz1
  have hz2 : Hid (iV.bytes = 32) := gz2
  clear giV gz0 gz1 gz2
  have lc : c < w.heap.size := h.x.lt
  obtain ⟨V, hV⟩ : ∃ V, w.alloc (.cells #[.int .i64 x.k, .int .i64 x.n, .string x.t] 29) = V := ⟨_, rfl⟩
  have bV : Below w.heap.size w V := by rw [← hV]; exact (Below.refl _ _).alloc (Nat.le_refl _) _
  have sV : V.heap.size = w.heap.size + 1 := by rw [← hV]; simp
  have AV : Hid (Box V w.heap.size 29 #[.int .i64 x.k, .int .i64 x.n, .string x.t]) := by unfold Hid; rw [← hV]; exact Box.new _ _ _
  obtain ⟨VA, hVA⟩ : ∃ VA, V.alloc (.cells #[.int .i64 x.k, .int .i64 x.n, .string x.t] 29) = VA := ⟨_, rfl⟩
  have bA : Below V.heap.size V VA := by rw [← hVA]; exact (Below.refl _ _).alloc (Nat.le_refl _) _
  have sA : VA.heap.size = w.heap.size + 2 := by rw [← hVA]; simp [sV]
  have NA0 : Hid (Box VA V.heap.size 29 #[.int .i64 x.k, .int .i64 x.n, .string x.t]) := by unfold Hid; rw [← hVA]; exact Box.new _ _ _
  have bW : Below w.heap.size w VA := bV.trans (bA.mono (by omega))
  have HW : Hid (Below w.heap.size w VA) := bW
  have XV : Hid (Box V c 64 #[.int .i64 i, .int .i64 u.1, .int .i64 u.2.1, .string u.2.2, .int .i64 v.1, .int .i64 v.2.1, .string v.2.2, .slice a S.length cap, .int .i64 nx]) := h.x.belowS bV
  have XA : Hid (Box VA c 64 #[.int .i64 i, .int .i64 u.1, .int .i64 u.2.1, .string u.2.2, .int .i64 v.1, .int .i64 v.2.1, .string v.2.2, .slice a S.length cap, .int .i64 nx]) := h.x.belowS bW
  have OA : Hid (VA.ownsRow B 29 3 (.slice a S.length cap) S.length (cellsC S)) := own_below h.r bW
  have NA : Hid (∀ ad, some (⟨V.heap.size, 0, none⟩ : Addr) = some ad → ∀ j y, (cC x)[j]? = some y → VA.cell? (ad.add j) = some y) := by
    intro ad ea j y hj
    cases ea
    have hx := (NA0.out.cell j)
    rw [addr_add, Nat.zero_add, hx]
    simpa [cC] using hj
  have HO : Hid (∀ g, ob a = some g → B ≤ g ∧ g < w.heap.size) := fun g hg => by
    rcases own_form h.r with ⟨e, _⟩ | ⟨g', c', hv, hb, hl⟩
    · simp only [Value.slice.injEq] at e; rw [e.1] at hg; cases hg
    · simp only [Value.slice.injEq] at hv; rw [hv.1] at hg; cases hg; exact ⟨hb, hl⟩
  obtain ⟨m, hm⟩ : ∃ m, S.length = m := ⟨_, rfl⟩
  rw [hm] at XV XA OA hs
  have HM : Hid (S.length = m) := hm
  have x7 : V.cell? ⟨c, 7, none⟩ = some (.slice a m cap) := XV.out.cell 7
  have xa7 : VA.cell? ⟨c, 7, none⟩ = some (.slice a m cap) := XA.out.cell 7
  obtain ⟨p0, p1, p2⟩ := box3 AV.out
  have SV' : Hid (V.heap.size = w.heap.size + 1) := sV
  have SA : Hid (VA.heap.size = w.heap.size + 2) := sA
  clear h bV bA bW hm sV sA
  go_enter Tryd.func74, Tryd.ntmps74
  go_wp2_with fail
  go_region_law (
    refine step_app_any _ (by rfl) (.tmp 8) (.tmp 10) 62 (by rfl) B 29 iV (.agg #[.int .i64 0, .int .i64 0, .string ⟨#[]⟩]) 3 32 Tryd.underlying62 hiV.out hz0.out hz1.out hz2.out rfl (by omega) (.slice a m cap) m (cellsC S) (by rfl) (by exact OA.out) (some ⟨V.heap.size, 0, none⟩) 1 1 (cC x) (by rfl) (fun ex => by cases ex) rfl (by exact NA.out) (oneC x) (by unfold maxLen; omega) (by omega) (by show B ≤ VA.heap.size; have := SA.out; omega) ?_
    intro l2 lc2 w5 ho hgx hax
    rw [ob_slice] at hgx hax
    have hg5 : VA.grownBy w5 (ob a) := ⟨hgx.os, hgx.tape, hgx.output, hgx.size, hgx.block⟩
    have HA5 : Hid (∀ y, ob l2 = some y → ob a = some y ∨ y = VA.heap.size) := hax
    have HO5 : Hid (w5.ownsRow B 29 3 (.slice l2 (m + 1) lc2) (m + 1) (cellsC S ++ cC x)) := ho
    have HG5 : Hid (VA.grownBy w5 (ob a)) := hg5
    have X5 : Hid (Box w5 c 64 #[.int .i64 i, .int .i64 u.1, .int .i64 u.2.1, .string u.2.2, .int .i64 v.1, .int .i64 v.2.1, .string v.2.2, .slice a m cap, .int .i64 nx]) := XA.out.grown hg5 (fun ex => by have := HO.out c ex; omega)
    have y7 : w5.cell? ⟨c, 7, none⟩ = some (.slice a m cap) := X5.out.cell 7
    have z7 := X5.out.thaw 7
    clear ho hgx hax hg5)
  all_goals
    go_wp2
    refine bodyPost_end (v := .tuple #[]) (by simp [results, Tryd.results74]) rfl ⟨⟨_, rfl⟩, ⟨l2, lc2, ?_, ?_⟩, ?_⟩
    · have := box9_set7 X5.out (.slice l2 (m + 1) lc2)
      rw [show (S ++ [x]).length = m + 1 by rw [List.length_append, HM.out]; rfl]
      exact this
    · rw [show (S ++ [x]).length = m + 1 by rw [List.length_append, HM.out]; rfl, cellsC_snoc]
      refine own_same HO5.out fun j ej => Below.heap_setCell _ _ _ _ ?_
      rw [ob_slice] at ej
      show j ≠ c
      have := SA.out
      rcases HA5.out j ej with q | q
      · have := HO.out j q; omega
      · omega
    · have := SA.out
      refine LowB.set ⟨HG5.out.os.trans HW.out.os, HG5.out.tape.trans HW.out.tape, HG5.out.output.trans HW.out.output, Nat.le_trans HW.out.size HG5.out.size, fun j hj hc => ?_⟩ _ _ (.inl rfl)
      rw [HG5.out.block j (by omega) (fun e => by have := HO.out j e.symm; omega)]
      exact HW.out.block j (by omega)

end Go.Proofs.YtcgcaomaofppiaaDoor
