/-
  readExpr of the program: an expression off the tokens.
-/
import Derived.Test.YtbpfpjmjmkpjoaaGreatDoorZmg
import Derived.Test.YtbpfpjmjmkpjoaaGreatDoorTb
import Derived.Test.YtbpfpjmjmkpjoaaGreatDoorXl
import Derived.Deep.RegionWith
namespace Go.Proofs.YtbpfpjmjmkpjoaaGreatDoor
open Go Go.RowKit
attribute [local go_sem ↓] Go.wp_at_zero Go.wp_at_succ

set_option linter.unusedVariables false
set_option linter.unusedSimpArgs false
theorem own_blkN {w : World} {B t s n cap : Nat} {a : Option Addr} {xs : List Value} (h : w.ownsRow B t s (.slice a n cap) n xs) : ∀ g, ob a = some g → B ≤ g ∧ g < w.heap.size := fun g hg => by
  rcases own_form h with ⟨e, _⟩ | ⟨g', c', hv, hb, hl⟩
  · simp only [Value.slice.injEq] at e; rw [e.1] at hg; cases hg
  · simp only [Value.slice.injEq] at hv; rw [hv.1] at hg; cases hg; exact ⟨hb, hl⟩
theorem cellsE_app (xs ys : List EN) : cellsE (xs ++ ys) = cellsE xs ++ cellsE ys := by unfold cellsE; rw [List.flatMap_append]
theorem cellsE_one (x : EN) : cellsE [x] = cE x := by simp [cellsE]
theorem oneE (x : EN) : ∀ y ∈ cE x, y.oneCell' = true := by
  intro y hy
  simp only [cE, List.mem_cons, List.not_mem_nil, or_false] at hy
  rcases hy with rfl | rfl | rfl | rfl | rfl | rfl | rfl <;> rfl
theorem news_boxE {w : World} {g : Nat} (x : EN) (h : Box w g 86 #[.int .i64 x.o, .int .i64 x.a, .int .i64 x.b, .int .i64 x.c, .int .i64 x.k, .int .i64 x.n, .string x.t]) : ∀ ad, some (⟨g, 0, none⟩ : Addr) = some ad → ∀ j y, (cE x)[j]? = some y → w.cell? (ad.add j) = some y := by
  intro ad ea j y hj
  cases ea
  have hx := h.cell j
  rw [addr_add, Nat.zero_add, hx]
  simpa [cE] using hj
theorem snocE (L : List EN) (x : EN) : (L ++ [x]).length = L.length + 1 := by simp
structure Gr (r : Option Nat) (w w' : World) : Prop where
  os : w'.os = w.os
  tape : w'.tape = w.tape
  output : w'.output = w.output
  size : w.heap.size ≤ w'.heap.size
  block : ∀ k, k < w.heap.size → r ≠ some k → w'.heap[k]? = w.heap[k]?
theorem Gr.ofBelow {r : Option Nat} {w w' : World} (h : Below w.heap.size w w') : Gr r w w' := ⟨h.os, h.tape, h.output, h.size, fun k hk _ => h.block k hk⟩
theorem Gr.ofGrown {r : Option Nat} {w w' : World} (h : w.grownBy w' r) : Gr r w w' := ⟨h.os, h.tape, h.output, h.size, fun k hk hr => h.block k hk (Ne.symm hr)⟩
theorem Gr.trans {r r' : Option Nat} {a b c : World} (h : Gr r a b) (k : Gr r' b c) (hr : ∀ x, r' = some x → r = some x ∨ a.heap.size ≤ x) : Gr r a c :=
  ⟨k.os.trans h.os, k.tape.trans h.tape, k.output.trans h.output, Nat.le_trans h.size k.size, fun i hi h1 => (k.block i (Nat.lt_of_lt_of_le hi h.size) (fun e => by rcases hr i e with e2 | e2; exact h1 e2; omega)).trans (h.block i hi h1)⟩
theorem Gr.below {r : Option Nat} {B : Nat} {w w' : World} (h : Gr r w w') (hr : ∀ x, r = some x → B ≤ x) (hB : B ≤ w.heap.size) : Below B w w' :=
  ⟨h.os, h.tape, h.output, h.size, fun k hk => h.block k (Nat.lt_of_lt_of_le hk hB) (fun e => by have := hr k e; omega)⟩
def NewOr (w : World) (a a1 : Option Addr) : Prop := ∀ x, ob a1 = some x → ob a = some x ∨ w.heap.size ≤ x
theorem ap_app {W U V w5 : World} {B c2 : Nat} {a0 a a2 : Option Addr} {L : List EN} {x : EN} (h0 : Gr (ob a0) W U) (hn : NewOr W a0 a) (hb : Below U.heap.size U V) (ho : w5.ownsRow B 86 7 (.slice a2 (L.length + 1) c2) (L.length + 1) (cellsE L ++ cE x)) (hg : V.grownBy w5 (ob a)) (hx : ∀ g, ob a2 = some g → ob a = some g ∨ g = V.heap.size) :
    w5.ownsRow B 86 7 (.slice a2 (L ++ [x]).length c2) (L ++ [x]).length (cellsE (L ++ [x])) ∧ Gr (ob a0) W w5 ∧ NewOr W a0 a2 :=
  ⟨by rw [snocE, cellsE_app, cellsE_one]; exact ho, (h0.trans (.ofBelow hb : Gr none U V) (fun x e => by cases e)).trans (.ofGrown hg) (fun x e => hn x e), fun g e => by
    rcases hx g e with e2 | e2
    · exact hn g e2
    · have := h0.size; have := hb.size; exact .inr (by omega)⟩
/-- What appendNodes answers: the list with the nodes of the part behind it. -/
def AppA (B : Nat) (L : List EN) (a : Option Addr) (p : PT) (w : World) (e : Ending) (w' : World) : Prop :=
  ∃ (L1 : List EN) (a1 : Option Addr) (c1 : Nat), L1 = L ++ nodesP p L.length ∧ e = .returned (.slice a1 L1.length c1) ∧ w'.ownsRow B 86 7 (.slice a1 L1.length c1) L1.length (cellsE L1) ∧ Gr (ob a) w w' ∧ NewOr w a a1
def AppC (p : PT) : Prop := ∀ (w : World) (B : Nat) (L : List EN) (a : Option Addr) (cap : Nat), w.ownsRow B 86 7 (.slice a L.length cap) L.length (cellsE L) → B ≤ w.heap.size → L.length + p.cnt ≤ 1000 →
  Calls Tryz.prog 81 #[.slice a L.length cap, p.enc] w (AppA B L a p w)
set_option maxRecDepth 100000 in
set_option maxHeartbeats 8000000 in
theorem ap_con (k n : Int) (t : ByteArray) : AppC (.con k n t) := by
  intro w B L a cap hO hB hL
  obtain ⟨iE, giV, gz0, gz1, gz2⟩ := info_parts infoE
  have hiE : Hid (Tryz.prog.info? 86 = some iE) := giV
  have hz0 : Hid (iE.zero = some (.agg #[.int .i64 0, .int .i64 0, .int .i64 0, .int .i64 0, .int .i64 0, .int .i64 0, .string ⟨#[]⟩])) := gz0
  have hz1 : Hid (iE.size = 7) := gz1
  have hz2 : Hid (iE.bytes = 64) := gz2
  clear giV gz0 gz1 gz2
  have O1 : Hid (w.ownsRow B 86 7 (.slice a L.length cap) L.length (cellsE L)) := hO
  have HL : L.length + 1 ≤ 1000 := hL
  have ta := ta_con_con
  obtain ⟨V1, hV1⟩ : ∃ Q, w.alloc (.cells #[.int .i64 k, .int .i64 n, .string t] 125) = Q := ⟨_, rfl⟩
  have b1 : Below w.heap.size w V1 := by rw [← hV1]; exact (Below.refl _ _).alloc (Nat.le_refl _) _
  have X1 : Box V1 w.heap.size 125 #[.int .i64 k, .int .i64 n, .string t] := by rw [← hV1]; exact Box.new _ _ _
  obtain ⟨x0, x1, x2⟩ := box3 X1
  have OV : Hid (V1.ownsRow B 86 7 (.slice a L.length cap) L.length (cellsE L)) := own_below O1.out b1
  have BV : Hid (Gr (ob a) w V1) := .ofBelow b1
  have N0 : Hid (NewOr w a a) := fun x e => .inl e
  have lV : B ≤ V1.heap.size := Nat.le_trans hB b1.size
  clear hO hL b1 X1
  show Calls Tryz.prog 81 #[.slice a L.length cap, .iface 125 (.agg #[.int .i64 k, .int .i64 n, .string t])] w _
  go_enter Tryz.func81, Tryz.ntmps81
  obtain ⟨VN, hVN⟩ : ∃ Q, V1.alloc (.cells #[.int .i64 (1), .int .i64 (0), .int .i64 (0), .int .i64 (0), .int .i64 (k), .int .i64 (n), .string t] 86) = Q := ⟨_, rfl⟩
  have bVN : Hid (Below V1.heap.size V1 VN) := by unfold Hid; rw [← hVN]; exact (Below.refl _ _).alloc (Nat.le_refl _) _
  have BVN : Hid (Box VN V1.heap.size 86 #[.int .i64 (1), .int .i64 (0), .int .i64 (0), .int .i64 (0), .int .i64 (k), .int .i64 (n), .string t]) := by unfold Hid; rw [← hVN]; exact Box.new _ _ _
  have OVN : Hid (VN.ownsRow B 86 7 (.slice a L.length cap) L.length (cellsE L)) := own_below OV.out bVN.out
  have lVN : B ≤ VN.heap.size := by have := bVN.out.size; have := lV; omega
  go_wp2_with (at_builtin; refine app_any _ rfl (.tmp 14) (.tmp 18) 22 rfl B 86 iE (.agg #[.int .i64 0, .int .i64 0, .int .i64 0, .int .i64 0, .int .i64 0, .int .i64 0, .string ⟨#[]⟩]) 7 64 Tryz.underlying22 hiE.out hz0.out hz1.out hz2.out rfl (by omega) (.slice a L.length cap) L.length (cellsE L) rfl OVN.out _ 1 1 (cE (⟨1, 0, 0, 0, k, n, t⟩ : EN)) rfl (fun ex => by cases ex) rfl (news_boxE (⟨1, 0, 0, 0, k, n, t⟩ : EN) BVN.out) (oneE _) (by unfold maxLen; omega) (by omega) lVN ?_; intro a9 c9 w9 ho9 hg9 hx9; rw [ob_slice] at hg9 hx9; have P9 : Hid (_ ∧ _ ∧ _) := ap_app BV.out N0.out bVN.out ho9 hg9 hx9; clear ho9 hg9 hx9)
  go_ret
  exact ⟨L ++ [⟨1, 0, 0, 0, k, n, t⟩], a9, c9, rfl, by rw [snocE]; rfl, P9.out.1, P9.out.2.1, P9.out.2.2⟩
set_option maxRecDepth 100000 in
set_option maxHeartbeats 8000000 in
theorem ap_col (c : Int) : AppC (.col c) := by
  intro w B L a cap hO hB hL
  obtain ⟨iE, giV, gz0, gz1, gz2⟩ := info_parts infoE
  have hiE : Hid (Tryz.prog.info? 86 = some iE) := giV
  have hz0 : Hid (iE.zero = some (.agg #[.int .i64 0, .int .i64 0, .int .i64 0, .int .i64 0, .int .i64 0, .int .i64 0, .string ⟨#[]⟩])) := gz0
  have hz1 : Hid (iE.size = 7) := gz1
  have hz2 : Hid (iE.bytes = 64) := gz2
  clear giV gz0 gz1 gz2
  have O1 : Hid (w.ownsRow B 86 7 (.slice a L.length cap) L.length (cellsE L)) := hO
  have HL : L.length + 1 ≤ 1000 := hL
  have ta := ta_col_con
  have tb := ta_col_col
  obtain ⟨V1, hV1⟩ : ∃ Q, w.alloc (.cells #[.int .i64 c] 128) = Q := ⟨_, rfl⟩
  have b1 : Below w.heap.size w V1 := by rw [← hV1]; exact (Below.refl _ _).alloc (Nat.le_refl _) _
  have X1 : Box V1 w.heap.size 128 #[.int .i64 c] := by rw [← hV1]; exact Box.new _ _ _
  have x0 := X1.cell 0
  simp only [List.getElem?_toArray, List.getElem?_cons_zero] at x0
  have OV : Hid (V1.ownsRow B 86 7 (.slice a L.length cap) L.length (cellsE L)) := own_below O1.out b1
  have BV : Hid (Gr (ob a) w V1) := .ofBelow b1
  have N0 : Hid (NewOr w a a) := fun x e => .inl e
  have lV : B ≤ V1.heap.size := Nat.le_trans hB b1.size
  clear hO hL b1 X1
  show Calls Tryz.prog 81 #[.slice a L.length cap, .iface 128 (.agg #[.int .i64 c])] w _
  go_enter Tryz.func81, Tryz.ntmps81
  obtain ⟨VN, hVN⟩ : ∃ Q, V1.alloc (.cells #[.int .i64 (2), .int .i64 (0), .int .i64 (0), .int .i64 (c), .int .i64 (0), .int .i64 (0), .string ⟨#[]⟩] 86) = Q := ⟨_, rfl⟩
  have bVN : Hid (Below V1.heap.size V1 VN) := by unfold Hid; rw [← hVN]; exact (Below.refl _ _).alloc (Nat.le_refl _) _
  have BVN : Hid (Box VN V1.heap.size 86 #[.int .i64 (2), .int .i64 (0), .int .i64 (0), .int .i64 (c), .int .i64 (0), .int .i64 (0), .string ⟨#[]⟩]) := by unfold Hid; rw [← hVN]; exact Box.new _ _ _
  have OVN : Hid (VN.ownsRow B 86 7 (.slice a L.length cap) L.length (cellsE L)) := own_below OV.out bVN.out
  have lVN : B ≤ VN.heap.size := by have := bVN.out.size; have := lV; omega
  go_wp2_with (at_builtin; refine app_any _ rfl (.tmp 23) (.tmp 27) 22 rfl B 86 iE (.agg #[.int .i64 0, .int .i64 0, .int .i64 0, .int .i64 0, .int .i64 0, .int .i64 0, .string ⟨#[]⟩]) 7 64 Tryz.underlying22 hiE.out hz0.out hz1.out hz2.out rfl (by omega) (.slice a L.length cap) L.length (cellsE L) rfl OVN.out _ 1 1 (cE (⟨2, 0, 0, c, 0, 0, ⟨#[]⟩⟩ : EN)) rfl (fun ex => by cases ex) rfl (news_boxE (⟨2, 0, 0, c, 0, 0, ⟨#[]⟩⟩ : EN) BVN.out) (oneE _) (by unfold maxLen; omega) (by omega) lVN ?_; intro a9 c9 w9 ho9 hg9 hx9; rw [ob_slice] at hg9 hx9; have P9 : Hid (_ ∧ _ ∧ _) := ap_app BV.out N0.out bVN.out ho9 hg9 hx9; clear ho9 hg9 hx9)
  go_ret
  exact ⟨L ++ [⟨2, 0, 0, c, 0, 0, ⟨#[]⟩⟩], a9, c9, rfl, by rw [snocE]; rfl, P9.out.1, P9.out.2.1, P9.out.2.2⟩
set_option maxRecDepth 100000 in
set_option maxHeartbeats 8000000 in
theorem ap_una (op : Int) (p : PT) (hp : AppC p) : AppC (.una op p) := by
  intro w B L a cap hO hB hL
  obtain ⟨iE, giV, gz0, gz1, gz2⟩ := info_parts infoE
  have hiE : Hid (Tryz.prog.info? 86 = some iE) := giV
  have hz0 : Hid (iE.zero = some (.agg #[.int .i64 0, .int .i64 0, .int .i64 0, .int .i64 0, .int .i64 0, .int .i64 0, .string ⟨#[]⟩])) := gz0
  have hz1 : Hid (iE.size = 7) := gz1
  have hz2 : Hid (iE.bytes = 64) := gz2
  clear giV gz0 gz1 gz2
  have O1 : Hid (w.ownsRow B 86 7 (.slice a L.length cap) L.length (cellsE L)) := hO
  have HL : L.length + p.cnt + 1 ≤ 1000 := by simp only [PT.cnt] at hL; omega
  have ta := ta_una_con
  have tb := ta_una_col
  have tc := ta_una_una
  obtain ⟨T9, y9, hy⟩ := enc_if2 p
  obtain ⟨V1, hV1⟩ : ∃ Q, w.alloc (.cells #[.int .i64 op, .iface T9 y9] 130) = Q := ⟨_, rfl⟩
  have b1 : Below w.heap.size w V1 := by rw [← hV1]; exact (Below.refl _ _).alloc (Nat.le_refl _) _
  have X1 : Hid (Box V1 w.heap.size 130 #[.int .i64 op, .iface T9 y9]) := by unfold Hid; rw [← hV1]; exact Box.new _ _ _
  have x0 : V1.cell? ⟨w.heap.size, 0, none⟩ = some (.int .i64 op) := X1.out.cell 0
  have x1 : V1.cell? ⟨w.heap.size, 1, none⟩ = some (.iface T9 y9) := X1.out.cell 1
  have OV : Hid (V1.ownsRow B 86 7 (.slice a L.length cap) L.length (cellsE L)) := own_below O1.out b1
  have BV : Hid (Gr (ob a) w V1) := .ofBelow b1
  have N0 : Hid (NewOr w a a) := fun x e => .inl e
  have lV : B ≤ V1.heap.size := Nat.le_trans hB b1.size
  have lw : w.heap.size < V1.heap.size := X1.out.lt
  have C := hp V1 B L a cap OV.out lV (by omega)
  rw [hy] at C
  have ne1 : Hid (ob a ≠ some w.heap.size) := fun e => by have := (own_blkN O1.out _ e).2; omega
  have HY : Hid ((PT.una op p).enc = .iface 130 (.agg #[.int .i64 op, .iface T9 y9])) := by unfold Hid; rw [← hy]; rfl
  clear hO hL b1 hp hy
  rw [HY.out]
  go_enter Tryz.func81, Tryz.ntmps81
  go_wp2_with fail
  refine C.mono ?_
  rintro e w2 ⟨L1, a1, c1, hL1, rfl, hO2, hG2, hN2⟩
  have HL1 : Hid (L1 = L ++ nodesP p L.length) := hL1
  have ln : L1.length = L.length + p.cnt := by rw [hL1, List.length_append, nodes_len]
  have X2 : Hid (Box w2 w.heap.size 130 #[.int .i64 op, .iface T9 y9]) := (hG2.block _ lw ne1.out).trans X1.out
  have O2 : Hid (w2.ownsRow B 86 7 (.slice a1 L1.length c1) L1.length (cellsE L1)) := hO2
  have G2 : Hid (Gr (ob a) w w2) := BV.out.trans hG2 (fun x e => .inl e)
  have N2 : Hid (NewOr w a a1) := fun x e => by rcases hN2 x e with h | h; exact .inl h; exact .inr (by omega)
  have l2 : B ≤ w2.heap.size := Nat.le_trans lV hG2.size
  have z0 : w2.cell? ⟨w.heap.size, 0, none⟩ = some (.int .i64 op) := X2.out.cell 0
  have e1 : IntKind.i64.wrap ((L1.length : Int) - 1) = (L1.length : Int) - 1 := by simp [IntKind.wrap_i64]; have := cnt_pos p; omega
  have e2 : L1.length ≤ 1000 := by omega
  have HLN : Hid (L1.length = L.length + p.cnt) := ln
  clear C hL1 hO2 hG2 hN2 x0 x1 OV BV N0 ln
  obtain ⟨VN, hVN⟩ : ∃ Q, w2.alloc (.cells #[.int .i64 (op), .int .i64 ((L1.length : Int) - 1), .int .i64 (0), .int .i64 (0), .int .i64 (0), .int .i64 (0), .string ⟨#[]⟩] 86) = Q := ⟨_, rfl⟩
  have bVN : Hid (Below w2.heap.size w2 VN) := by unfold Hid; rw [← hVN]; exact (Below.refl _ _).alloc (Nat.le_refl _) _
  have BVN : Hid (Box VN w2.heap.size 86 #[.int .i64 (op), .int .i64 ((L1.length : Int) - 1), .int .i64 (0), .int .i64 (0), .int .i64 (0), .int .i64 (0), .string ⟨#[]⟩]) := by unfold Hid; rw [← hVN]; exact Box.new _ _ _
  have OVN : Hid (VN.ownsRow B 86 7 (.slice a1 L1.length c1) L1.length (cellsE L1)) := own_below O2.out bVN.out
  have lVN : B ≤ VN.heap.size := by have := bVN.out.size; have := l2; omega
  go_wp2_with (at_builtin; refine app_any _ rfl (.tmp 36) (.tmp 43) 22 rfl B 86 iE (.agg #[.int .i64 0, .int .i64 0, .int .i64 0, .int .i64 0, .int .i64 0, .int .i64 0, .string ⟨#[]⟩]) 7 64 Tryz.underlying22 hiE.out hz0.out hz1.out hz2.out rfl (by omega) (.slice a1 L1.length c1) L1.length (cellsE L1) rfl OVN.out _ 1 1 (cE (⟨op, (L1.length : Int) - 1, 0, 0, 0, 0, ⟨#[]⟩⟩ : EN)) rfl (fun ex => by cases ex) rfl (news_boxE (⟨op, (L1.length : Int) - 1, 0, 0, 0, 0, ⟨#[]⟩⟩ : EN) BVN.out) (oneE _) (by unfold maxLen; omega) (by omega) lVN ?_; intro a9 c9 w9 ho9 hg9 hx9; rw [ob_slice] at hg9 hx9; have P9 : Hid (_ ∧ _ ∧ _) := ap_app G2.out N2.out bVN.out ho9 hg9 hx9; clear ho9 hg9 hx9)
  go_ret
  exact ⟨L1 ++ [⟨op, (L1.length : Int) - 1, 0, 0, 0, 0, ⟨#[]⟩⟩], a9, c9, by rw [HL1.out, nodesP, ← List.append_assoc, List.length_append], by rw [snocE]; rfl, P9.out.1, P9.out.2.1, P9.out.2.2⟩
set_option maxRecDepth 100000 in
set_option maxHeartbeats 8000000 in
theorem ap_bin (op : Int) (l r : PT) (hp : AppC l) (hq : AppC r) : AppC (.bin op l r) := by
  intro w B L a cap hO hB hL
  obtain ⟨iE, giV, gz0, gz1, gz2⟩ := info_parts infoE
  have hiE : Hid (Tryz.prog.info? 86 = some iE) := giV
  have hz0 : Hid (iE.zero = some (.agg #[.int .i64 0, .int .i64 0, .int .i64 0, .int .i64 0, .int .i64 0, .int .i64 0, .string ⟨#[]⟩])) := gz0
  have hz1 : Hid (iE.size = 7) := gz1
  have hz2 : Hid (iE.bytes = 64) := gz2
  clear giV gz0 gz1 gz2
  have O1 : Hid (w.ownsRow B 86 7 (.slice a L.length cap) L.length (cellsE L)) := hO
  have HL : L.length + l.cnt + r.cnt + 1 ≤ 1000 := by simp only [PT.cnt] at hL; omega
  have ta := ta_bin_con
  have tb := ta_bin_col
  have tc := ta_bin_una
  have td := ta_bin_bin
  obtain ⟨T8, y8, hy8⟩ := enc_if2 l
  obtain ⟨T9, y9, hy9⟩ := enc_if2 r
  obtain ⟨V1, hV1⟩ : ∃ Q, w.alloc (.cells #[.int .i64 op, .iface T8 y8, .iface T9 y9] 133) = Q := ⟨_, rfl⟩
  have b1 : Below w.heap.size w V1 := by rw [← hV1]; exact (Below.refl _ _).alloc (Nat.le_refl _) _
  have X1 : Hid (Box V1 w.heap.size 133 #[.int .i64 op, .iface T8 y8, .iface T9 y9]) := by unfold Hid; rw [← hV1]; exact Box.new _ _ _
  obtain ⟨x0, x1, x2⟩ := box3 X1.out
  have OV : Hid (V1.ownsRow B 86 7 (.slice a L.length cap) L.length (cellsE L)) := own_below O1.out b1
  have BV : Hid (Gr (ob a) w V1) := .ofBelow b1
  have N0 : Hid (NewOr w a a) := fun x e => .inl e
  have lV : B ≤ V1.heap.size := Nat.le_trans hB b1.size
  have lw : w.heap.size < V1.heap.size := X1.out.lt
  have C := hp V1 B L a cap OV.out lV (by omega)
  rw [hy8] at C
  have ne1 : Hid (ob a ≠ some w.heap.size) := fun e => by have := (own_blkN O1.out _ e).2; omega
  have HQ : Hid (AppC r) := hq
  have HR9 : Hid (r.enc = .iface T9 y9) := hy9
  have HY : Hid ((PT.bin op l r).enc = .iface 133 (.agg #[.int .i64 op, .iface T8 y8, .iface T9 y9])) := by unfold Hid; rw [← hy8, ← hy9]; rfl
  clear hO hL b1 hp hy8 hy9 hq
  rw [HY.out]
  go_enter Tryz.func81, Tryz.ntmps81
  go_wp2_with fail
  refine C.mono ?_
  rintro e w2 ⟨L1, a1, c1, hL1, rfl, hO2, hG2, hN2⟩
  have HL1 : Hid (L1 = L ++ nodesP l L.length) := hL1
  have ln : L1.length = L.length + l.cnt := by rw [hL1, List.length_append, nodes_len]
  have X2 : Hid (Box w2 w.heap.size 133 #[.int .i64 op, .iface T8 y8, .iface T9 y9]) := (hG2.block _ lw ne1.out).trans X1.out
  have O2 : Hid (w2.ownsRow B 86 7 (.slice a1 L1.length c1) L1.length (cellsE L1)) := hO2
  have G2 : Hid (Gr (ob a) w w2) := BV.out.trans hG2 (fun x e => .inl e)
  have N2 : Hid (NewOr w a a1) := fun x e => by rcases hN2 x e with h | h; exact .inl h; exact .inr (by omega)
  have ne2 : Hid (ob a1 ≠ some w.heap.size) := fun e => by rcases hN2 _ e with h | h; exact ne1.out h; omega
  have l2 : B ≤ w2.heap.size := Nat.le_trans lV hG2.size
  have lw2 : w.heap.size < w2.heap.size := Nat.lt_of_lt_of_le lw hG2.size
  obtain ⟨z0, z1, z2⟩ := box3 X2.out
  have e1 : IntKind.i64.wrap ((L1.length : Int) - 1) = (L1.length : Int) - 1 := by simp [IntKind.wrap_i64]; have := cnt_pos l; omega
  have C2 := HQ.out w2 B L1 a1 c1 O2.out l2 (by omega)
  rw [HR9.out] at C2
  have HLN : Hid (L1.length = L.length + l.cnt) := ln
  clear C hL1 hO2 hG2 hN2 x0 x1 x2 OV BV N0 ln hV1
  go_wp2_with fail
  refine C2.mono ?_
  rintro e w3 ⟨L2, a2, c2, hL2, rfl, hO3, hG3, hN3⟩
  have HL2 : Hid (L2 = L1 ++ nodesP r L1.length) := hL2
  have ln2 : L2.length = L.length + l.cnt + r.cnt := by rw [hL2, List.length_append, nodes_len, HLN.out]
  have X3 : Hid (Box w3 w.heap.size 133 #[.int .i64 op, .iface T8 y8, .iface T9 y9]) := (hG3.block _ lw2 ne2.out).trans X2.out
  have O3 : Hid (w3.ownsRow B 86 7 (.slice a2 L2.length c2) L2.length (cellsE L2)) := hO3
  have G3 : Hid (Gr (ob a) w w3) := G2.out.trans hG3 (fun x e => N2.out x e)
  have N3 : Hid (NewOr w a a2) := fun x e => by rcases hN3 x e with h | h; exact N2.out x h; exact .inr (by omega)
  have l3 : B ≤ w3.heap.size := Nat.le_trans l2 hG3.size
  obtain ⟨s0, s1, s2⟩ := box3 X3.out
  have e3 : IntKind.i64.wrap ((L2.length : Int) - 1) = (L2.length : Int) - 1 := by simp [IntKind.wrap_i64]; have := cnt_pos l; omega
  have e2 : L2.length ≤ 1000 := by omega
  clear C2 hL2 hO3 hG3 hN3 z0 z1 z2 ln2
  obtain ⟨VN, hVN⟩ : ∃ Q, w3.alloc (.cells #[.int .i64 (op), .int .i64 ((L1.length : Int) - 1), .int .i64 ((L2.length : Int) - 1), .int .i64 (0), .int .i64 (0), .int .i64 (0), .string ⟨#[]⟩] 86) = Q := ⟨_, rfl⟩
  have bVN : Hid (Below w3.heap.size w3 VN) := by unfold Hid; rw [← hVN]; exact (Below.refl _ _).alloc (Nat.le_refl _) _
  have BVN : Hid (Box VN w3.heap.size 86 #[.int .i64 (op), .int .i64 ((L1.length : Int) - 1), .int .i64 ((L2.length : Int) - 1), .int .i64 (0), .int .i64 (0), .int .i64 (0), .string ⟨#[]⟩]) := by unfold Hid; rw [← hVN]; exact Box.new _ _ _
  have OVN : Hid (VN.ownsRow B 86 7 (.slice a2 L2.length c2) L2.length (cellsE L2)) := own_below O3.out bVN.out
  have lVN : B ≤ VN.heap.size := by have := bVN.out.size; have := l3; omega
  go_wp2_with (at_builtin; refine app_any _ rfl (.tmp 59) (.tmp 67) 22 rfl B 86 iE (.agg #[.int .i64 0, .int .i64 0, .int .i64 0, .int .i64 0, .int .i64 0, .int .i64 0, .string ⟨#[]⟩]) 7 64 Tryz.underlying22 hiE.out hz0.out hz1.out hz2.out rfl (by omega) (.slice a2 L2.length c2) L2.length (cellsE L2) rfl OVN.out _ 1 1 (cE (⟨op, (L1.length : Int) - 1, (L2.length : Int) - 1, 0, 0, 0, ⟨#[]⟩⟩ : EN)) rfl (fun ex => by cases ex) rfl (news_boxE (⟨op, (L1.length : Int) - 1, (L2.length : Int) - 1, 0, 0, 0, ⟨#[]⟩⟩ : EN) BVN.out) (oneE _) (by unfold maxLen; omega) (by omega) lVN ?_; intro a9 c9 w9 ho9 hg9 hx9; rw [ob_slice] at hg9 hx9; have P9 : Hid (_ ∧ _ ∧ _) := ap_app G3.out N3.out bVN.out ho9 hg9 hx9; clear ho9 hg9 hx9)
  go_ret
  have E : L2 ++ [(⟨op, (L1.length : Int) - 1, (L2.length : Int) - 1, 0, 0, 0, ⟨#[]⟩⟩ : EN)] = L ++ nodesP (.bin op l r) L.length := by
    have f1 := HL1.out
    have f2 := HL2.out
    have n1 : L1.length = L.length + (nodesP l L.length).length := by rw [f1, List.length_append]
    rw [n1] at f2
    have n2 : L2.length = L.length + (nodesP l L.length).length + (nodesP r (L.length + (nodesP l L.length).length)).length := by rw [f2, List.length_append, n1]
    rw [n1, n2, f2, f1, nodesP]
    simp only [List.append_assoc]
  exact ⟨L2 ++ [⟨op, (L1.length : Int) - 1, (L2.length : Int) - 1, 0, 0, 0, ⟨#[]⟩⟩], a9, c9, E, by rw [snocE]; rfl, P9.out.1, P9.out.2.1, P9.out.2.2⟩
theorem c_app : ∀ p : PT, AppC p
  | .con k n t => ap_con k n t
  | .col c => ap_col c
  | .una op p => ap_una op p (c_app p)
  | .bin op l r => ap_bin op l r (c_app l) (c_app r)

end Go.Proofs.YtbpfpjmjmkpjoaaGreatDoor
namespace Go.Proofs.YtbpfpjmjmkpjoaaGreatDoor
open Go Go.RowKit
attribute [local go_sem ↓] Go.wp_at_zero Go.wp_at_succ

set_option linter.unusedVariables false
set_option linter.unusedSimpArgs false
theorem loadX1 {w : World} {r : Nat} {v0 : Value} (hb : Box w r 24 #[v0]) : (loadVar 24 ⟨r, 0, none⟩).run Tryz.prog w = .ok (.agg #[v0]) w := by
  have e0 : w.cell? ⟨r, 0, none⟩ = some v0 := hb.cell 0
  simp [go_sem, e0]
theorem retX3 {fn : Func} {p u u' : Tmp} (h : fn.results = #[.cell p 24, .tmp u, .tmp u']) {R : Ending → World → Prop} {a : Act} {w : World} {r : Nat} {v0 v v' : Value} (hp : a.tmps.getD p undef = .pointer (some ⟨r, 0, none⟩)) (hu : a.tmps.getD u undef = v) (hu2 : a.tmps.getD u' undef = v') (hd : a.defers = []) (hb : Box w r 24 #[v0]) (hR : R (.returned (.tuple #[.agg #[v0], v, v'])) w) : bodyPost Tryz.prog fn R .ret a w := by
  refine bodyPost_ret ?_ hd hR
  have hp' : a.tmps[p]?.getD undef = .pointer (some ⟨r, 0, none⟩) := by simpa using hp
  have hu' : a.tmps[u]?.getD undef = v := by simpa using hu
  have hu2' : a.tmps[u']?.getD undef = v' := by simpa using hu2
  simp only [results, h]
  simp [Result.andThen, hp', hu', hu2', asAddr, loadX1 hb]
theorem retX2 {fn : Func} {p u : Tmp} (h : fn.results = #[.cell p 24, .tmp u]) {R : Ending → World → Prop} {a : Act} {w : World} {r : Nat} {v0 v : Value} (hp : a.tmps.getD p undef = .pointer (some ⟨r, 0, none⟩)) (hu : a.tmps.getD u undef = v) (hd : a.defers = []) (hb : Box w r 24 #[v0]) (hR : R (.returned (.tuple #[.agg #[v0], v])) w) : bodyPost Tryz.prog fn R .ret a w := by
  refine bodyPost_ret ?_ hd hR
  have hp' : a.tmps[p]?.getD undef = .pointer (some ⟨r, 0, none⟩) := by simpa using hp
  have hu' : a.tmps[u]?.getD undef = v := by simpa using hu
  simp only [results, h]
  simp [Result.andThen, hp', hu', asAddr, loadX1 hb]
theorem put1_box {V : World} {r : Nat} {t : TypeId} {x0 : Value} (h : Box V r t #[x0]) (v0 : Value) : Box (V.setCell ⟨r, 0, none⟩ v0) r t #[v0] := by
  have := h.set 0 v0
  simpa using this
/-- An expression that is too deep is none. -/
def finR : Res → Res
  | .err c => .err c
  | .ok p T n => if 12 < p.dep then .err 16 else .ok p T n
/-- What readExpr answers. -/
def AnsX (B : Nat) (r : Res) (e : Ending) (w' : World) : Prop :=
  match r with
  | .err c => e = .returned (.tuple #[.agg #[.slice none 0 0], .slice none 0 0, .int .i64 c]) ∧ ((c == 0) = false)
  | .ok p T n => ∃ a1 c1 aT cT, e = .returned (.tuple #[.agg #[.slice a1 (nodesP p 0).length c1], .slice aT T.length cT, .int .i64 0]) ∧ w'.ownsRow B 86 7 (.slice a1 (nodesP p 0).length c1) (nodesP p 0).length (cellsE (nodesP p 0)) ∧ T.length ≤ cT ∧ 0 ≤ cT ∧ TkR B w' aT T
theorem dep_cnt : ∀ p : PT, p.dep ≤ p.cnt
  | .con _ _ _ => Nat.le_refl _
  | .col _ => Nat.le_refl _
  | .una _ p => by have := dep_cnt p; simp only [PT.dep, PT.cnt]; omega
  | .bin _ l r => by have := dep_cnt l; have := dep_cnt r; simp only [PT.dep, PT.cnt]; omega
theorem TkR.less {g : Nat} {w : World} {a a9 : Option Addr} {n9 c9 : Nat} {T : List ByteArray} (h : TkR (g + 1) w a T) (hb : Box w g 24 #[.slice a9 n9 c9]) : TkR g w a T := ⟨h.1, fun hT => by
  obtain ⟨b, off, e, hlt, hc⟩ := h.2 hT
  refine ⟨b, off, e, ?_, hc⟩
  by_cases hbg : b = g
  · have h0 := hc 0 hT
    rw [hbg] at h0
    have h1 := hb.cell (off + 0)
    rw [h0] at h1
    cases off with
    | zero => simp at h1
    | succ k => simp at h1
  · omega⟩
theorem TkR.up {g g' : Nat} {w : World} {a : Option Addr} {T : List ByteArray} (h : TkR g w a T) (hg : g ≤ g') : TkR g' w a T := ⟨h.1, fun hT => by
  obtain ⟨b, off, e, hb, hc⟩ := h.2 hT
  exact ⟨b, off, e, Nat.lt_of_lt_of_le hb hg, hc⟩⟩
set_option maxRecDepth 100000 in
set_option maxHeartbeats 8000000 in
theorem c_reE (T : List ByteArray) (a : Option Addr) (cap : Nat) (w : World) (h1 : T.length ≤ cap) (h2 : 0 ≤ cap) (ht : TkR w.heap.size w a T) (hT : Tabs w) (hE : TabE w) (c : Int) (hp : Parses (.ch .or) 0 T 0 (.err c)) :
    Calls Tryz.prog 40 #[.slice a T.length cap] w fun e w' => AnsX w.heap.size (.err c) e w' ∧ Below w.heap.size w w' := by
  obtain ⟨U, hU⟩ : ∃ Q, w.alloc (.cells #[.slice none 0 0] 24) = Q := ⟨_, rfl⟩
  obtain ⟨V, hV⟩ : ∃ Q, U.alloc (.cells #[.slice a T.length cap, .int .i64 0, .int .i64 0] 106) = Q := ⟨_, rfl⟩
  have HV : Hid ((w.alloc (.cells #[.slice none 0 0] 24)).alloc (.cells #[.slice a T.length cap, .int .i64 0, .int .i64 0] 106) = V) := by unfold Hid; rw [hU, hV]
  have bU : Below w.heap.size w U := by rw [← hU]; exact (Below.refl _ _).alloc (Nat.le_refl _) _
  have sU : U.heap.size = w.heap.size + 1 := by rw [← hU]; simp
  have bV : Below U.heap.size U V := by rw [← hV]; exact (Below.refl _ _).alloc (Nat.le_refl _) _
  have XU : Box U w.heap.size 24 #[.slice none 0 0] := by rw [← hU]; exact Box.new _ _ _
  have XV : Hid (Box V w.heap.size 24 #[.slice none 0 0]) := XU.belowS bV
  have b1 : Below w.heap.size w V := bU.trans (bV.mono (by omega))
  have SV : StI (w.heap.size + 1) V T 0 0 := by
    refine ⟨a, cap, h1, h2, ?_, (ht.below b1).up (by omega)⟩
    rw [← sU, ← hV]; exact Box.new _ _ _
  have TV : TbG (w.heap.size + 1) V := ⟨w, hT, hE, by omega, b1⟩
  have C := ic_expr T (w.heap.size + 1) V 0 0 (.err c) SV TV (by omega) (by omega) hp
  have B1 : Hid (Below w.heap.size w V) := b1
  have lV : w.heap.size < V.heap.size := XV.out.lt
  clear SV TV b1 bV bU XU sU hU hV ht hT hE hp
  go_enter Tryz.func40, Tryz.ntmps40
  go_wp2_with fail
  rw [HV.out]
  refine C.mono ?_
  rintro e w1 ⟨⟨rfl, hc, _⟩, hb1⟩
  have HC : Hid ((c == 0) = false) := hc
  have X1 : Hid (Box w1 w.heap.size 24 #[.slice none 0 0]) := (hb1.block w.heap.size (by omega)).trans XV.out
  have B2 : Hid (Below w.heap.size w w1) := B1.out.trans (hb1.mono (by omega))
  have x0 : w1.cell? ⟨w.heap.size, 0, none⟩ = some (.slice none 0 0) := X1.out.cell 0
  have t0 := X1.out.thaw 0
  clear C hb1 XV B1 HV
  go_wp2
  with_reducible refine retX3 (v := .slice none 0 0) (v' := .int .i64 c) rfl rfl rfl rfl rfl (put1_box X1.out _) ⟨?_, ?_⟩
  exact ⟨rfl, HC.out⟩
  exact B2.out.setCell (p := ⟨w.heap.size, 0, none⟩) (Nat.le_refl _) _
set_option maxRecDepth 100000 in
set_option maxHeartbeats 8000000 in
theorem c_reO_con (T : List ByteArray) (a : Option Addr) (cap : Nat) (w : World) (h1 : T.length ≤ cap) (h2 : 0 ≤ cap) (ht : TkR w.heap.size w a T) (hT : Tabs w) (hE : TabE w) (k0 m0 : Int) (s0 : ByteArray) (T1 : List ByteArray) (n1 : Nat) (hp : Parses (.ch .or) 0 T 0 (.ok (PT.con k0 m0 s0) T1 n1)) (hd : (PT.con k0 m0 s0).dep ≤ 1048576) (hc : (PT.con k0 m0 s0).cnt ≤ 40) :
    Calls Tryz.prog 40 #[.slice a T.length cap] w fun e w' => AnsX w.heap.size (finR (.ok (PT.con k0 m0 s0) T1 n1)) e w' ∧ Below w.heap.size w w' := by
  obtain ⟨U, hU⟩ : ∃ Q, w.alloc (.cells #[.slice none 0 0] 24) = Q := ⟨_, rfl⟩
  obtain ⟨V, hV⟩ : ∃ Q, U.alloc (.cells #[.slice a T.length cap, .int .i64 0, .int .i64 0] 106) = Q := ⟨_, rfl⟩
  have HV : Hid ((w.alloc (.cells #[.slice none 0 0] 24)).alloc (.cells #[.slice a T.length cap, .int .i64 0, .int .i64 0] 106) = V) := by unfold Hid; rw [hU, hV]
  have bU : Below w.heap.size w U := by rw [← hU]; exact (Below.refl _ _).alloc (Nat.le_refl _) _
  have sU : U.heap.size = w.heap.size + 1 := by rw [← hU]; simp
  have bV : Below U.heap.size U V := by rw [← hV]; exact (Below.refl _ _).alloc (Nat.le_refl _) _
  have XU : Box U w.heap.size 24 #[.slice none 0 0] := by rw [← hU]; exact Box.new _ _ _
  have XV : Hid (Box V w.heap.size 24 #[.slice none 0 0]) := XU.belowS bV
  have b1 : Below w.heap.size w V := bU.trans (bV.mono (by omega))
  have SV : StI (w.heap.size + 1) V T 0 0 := by
    refine ⟨a, cap, h1, h2, ?_, (ht.below b1).up (by omega)⟩
    rw [← sU, ← hV]; exact Box.new _ _ _
  have TV : TbG (w.heap.size + 1) V := ⟨w, hT, hE, by omega, b1⟩
  have C := ic_expr T (w.heap.size + 1) V 0 0 (.ok (PT.con k0 m0 s0) T1 n1) SV TV (by omega) (by omega) hp
  have B1 : Hid (Below w.heap.size w V) := b1
  have lV : w.heap.size < V.heap.size := XV.out.lt
  have CD := c_dep (PT.con k0 m0 s0) hd
  unfold DepC at CD
  obtain ⟨d, hdd⟩ : ∃ d : Int, d = ((PT.con k0 m0 s0).dep : Nat) := ⟨_, rfl⟩
  have CD' : Hid (∀ W, Calls Tryz.prog 267 #[.agg #[.int .i64 k0, .int .i64 m0, .string s0]] W fun e w' => e = .returned (.int .i64 d) ∧ Below W.heap.size W w') := by rw [hdd]; exact CD
  have HD : Hid (d = ((PT.con k0 m0 s0).dep : Nat)) := hdd
  have CA : Hid (∀ W, Calls Tryz.prog 81 #[.slice none 0 0, (PT.con k0 m0 s0).enc] W (AppA W.heap.size [] none (PT.con k0 m0 s0) W)) := fun W => c_app (PT.con k0 m0 s0) W W.heap.size [] none 0 (World.ownsRow_nil W W.heap.size 86 7) (Nat.le_refl _) (by simp only [List.length_nil]; omega)
  simp only [PT.enc] at CA
  clear SV TV b1 bV bU XU sU hU hV ht hT hE hp CD hdd
  go_enter Tryz.func40, Tryz.ntmps40
  go_wp2_with fail
  rw [HV.out]
  refine C.mono ?_
  rintro e w1 ⟨⟨rfl, hs1⟩, hb1⟩
  simp only [PT.enc]
  have X1 : Hid (Box w1 w.heap.size 24 #[.slice none 0 0]) := (hb1.block w.heap.size (by omega)).trans XV.out
  have B2 : Hid (Below w.heap.size w w1) := B1.out.trans (hb1.mono (by omega))
  have HS1 : Hid (StI (w.heap.size + 1) w1 T1 n1 0) := hs1
  clear C hb1 XV B1 HV hs1 lV
  go_wp2_with fail
  refine (CD'.out w1).mono ?_
  rintro e w2 ⟨rfl, hb2⟩
  have X2 : Hid (Box w2 w.heap.size 24 #[.slice none 0 0]) := X1.out.belowS hb2
  have B3 : Hid (Below w.heap.size w w2) := B2.out.trans (hb2.mono B2.out.size)
  have hs2 : StI (w.heap.size + 1) w2 T1 n1 0 := HS1.out.below hb2
  have x0 : w2.cell? ⟨w.heap.size, 0, none⟩ = some (.slice none 0 0) := X2.out.cell 0
  have t0 := X2.out.thaw 0
  clear X1 B2 HS1 hb2 CD'
  by_cases h12 : (12 : Int) < d
  · have E : Hid (finR (.ok (PT.con k0 m0 s0) T1 n1) = .err 16) := by
      have hlt : 12 < (PT.con k0 m0 s0).dep := by have := HD.out; omega
      exact if_pos hlt
    clear CA hs2
    go_wp2
    refine retX3 (v := .slice none 0 0) (v' := .int .i64 16) rfl rfl rfl rfl rfl (put1_box X2.out _) ⟨?_, ?_⟩
    · rw [E.out]; exact ⟨rfl, by decide⟩
    · exact B3.out.setCell (p := ⟨w.heap.size, 0, none⟩) (Nat.le_refl _) _
  · have E : Hid (finR (.ok (PT.con k0 m0 s0) T1 n1) = .ok (PT.con k0 m0 s0) T1 n1) := by
      have hlt : ¬ 12 < (PT.con k0 m0 s0).dep := by have := HD.out; omega
      exact if_neg (t := Res.err 16) hlt
    obtain ⟨aT, cT, k1, k2, hbx, htk⟩ := hs2
    obtain ⟨N, hN⟩ : ∃ N, T1.length = N := ⟨_, rfl⟩
    have HN : Hid (T1.length = N) := hN
    rw [hN] at hbx k1
    obtain ⟨y0, y1, y2⟩ := box3 hbx
    have HTK : Hid (TkR (w.heap.size + 1) w2 aT T1) := htk
    have HX : Hid (Box w2 (w.heap.size + 1) 106 #[.slice aT N cT, .int .i64 (n1 : Int), .int .i64 ((0 : Nat) : Int)]) := hbx
    have lr : w.heap.size + 1 < w2.heap.size := HX.out.lt
    clear hbx htk hN hc hd HD
    go_wp2_with fail
    go_region_held3 (fun x => x.cell? ⟨w.heap.size + 1, 0, none⟩ = some (.slice aT N cT)) (first | go_keep)
      (first | (go_at_call 81; refine (CA.out _).mono ?_; rintro e w3 ⟨L1, a1, c1, hL1, rfl, hO, hG, hN1⟩
                have hL2 : Hid (L1 = nodesP (PT.con k0 m0 s0) 0) := hL1
                have hb3 := hG.below (fun x e => by cases e) (Nat.le_refl _)
                have HB3 : Hid (Below w2.heap.size w2 w3) := (below_drewN (Below.refl _ _) _).trans hb3
                have HO : Hid (w3.ownsRow w2.heap.size 86 7 (.slice a1 L1.length c1) L1.length (cellsE L1)) := hO
                have X4 : Hid (Box w3 w.heap.size 24 #[.slice none 0 0]) := X2.out.belowS HB3.out
                have yy := far6 HB3.out y0
                have z0 : w3.cell? ⟨w.heap.size, 0, none⟩ = some (.slice none 0 0) := X4.out.cell 0
                have o0 := X4.out.thaw 0
                have sl : w.heap.size ≠ w.heap.size + 1 := by omega
                clear hL1 hO hG hN1 hb3))
    all_goals
      go_wp2
      refine retX3 (v := .slice aT N cT) (v' := .int .i64 0) rfl rfl rfl rfl rfl (put1_box X4.out _) ⟨?_, ?_⟩
      · rw [E.out]
        have e2 := hL2.out
        have lw := B3.out.size
        have HTK3 : TkR (w.heap.size + 1) w3 aT T1 := HTK.out.below (HB3.out.mono (by omega))
        refine ⟨a1, c1, aT, cT, ?_, ?_, by rw [HN.out]; exact k1, k2, ?_⟩
        · rw [← e2, HN.out]
        · rw [← e2]
          refine World.ownsRow.down (own_same HO.out fun x ex => ?_) (Nat.le_of_lt (Nat.lt_of_succ_lt lr))
          rw [ob_slice] at ex
          have := (own_blkN HO.out x ex).1
          exact Below.heap_setCell w3 ⟨w.heap.size, 0, none⟩ _ x (by show x ≠ w.heap.size; omega)
        · exact (HTK3.less X4.out).below ((Below.refl w.heap.size w3).setCell (p := ⟨w.heap.size, 0, none⟩) (Nat.le_refl _) _)
      · exact (B3.out.trans (HB3.out.mono B3.out.size)).setCell (p := ⟨w.heap.size, 0, none⟩) (Nat.le_refl _) _
set_option maxRecDepth 100000 in
set_option maxHeartbeats 8000000 in
theorem c_reO_col (T : List ByteArray) (a : Option Addr) (cap : Nat) (w : World) (h1 : T.length ≤ cap) (h2 : 0 ≤ cap) (ht : TkR w.heap.size w a T) (hT : Tabs w) (hE : TabE w) (c0 : Int) (T1 : List ByteArray) (n1 : Nat) (hp : Parses (.ch .or) 0 T 0 (.ok (PT.col c0) T1 n1)) (hd : (PT.col c0).dep ≤ 1048576) (hc : (PT.col c0).cnt ≤ 40) :
    Calls Tryz.prog 40 #[.slice a T.length cap] w fun e w' => AnsX w.heap.size (finR (.ok (PT.col c0) T1 n1)) e w' ∧ Below w.heap.size w w' := by
  obtain ⟨U, hU⟩ : ∃ Q, w.alloc (.cells #[.slice none 0 0] 24) = Q := ⟨_, rfl⟩
  obtain ⟨V, hV⟩ : ∃ Q, U.alloc (.cells #[.slice a T.length cap, .int .i64 0, .int .i64 0] 106) = Q := ⟨_, rfl⟩
  have HV : Hid ((w.alloc (.cells #[.slice none 0 0] 24)).alloc (.cells #[.slice a T.length cap, .int .i64 0, .int .i64 0] 106) = V) := by unfold Hid; rw [hU, hV]
  have bU : Below w.heap.size w U := by rw [← hU]; exact (Below.refl _ _).alloc (Nat.le_refl _) _
  have sU : U.heap.size = w.heap.size + 1 := by rw [← hU]; simp
  have bV : Below U.heap.size U V := by rw [← hV]; exact (Below.refl _ _).alloc (Nat.le_refl _) _
  have XU : Box U w.heap.size 24 #[.slice none 0 0] := by rw [← hU]; exact Box.new _ _ _
  have XV : Hid (Box V w.heap.size 24 #[.slice none 0 0]) := XU.belowS bV
  have b1 : Below w.heap.size w V := bU.trans (bV.mono (by omega))
  have SV : StI (w.heap.size + 1) V T 0 0 := by
    refine ⟨a, cap, h1, h2, ?_, (ht.below b1).up (by omega)⟩
    rw [← sU, ← hV]; exact Box.new _ _ _
  have TV : TbG (w.heap.size + 1) V := ⟨w, hT, hE, by omega, b1⟩
  have C := ic_expr T (w.heap.size + 1) V 0 0 (.ok (PT.col c0) T1 n1) SV TV (by omega) (by omega) hp
  have B1 : Hid (Below w.heap.size w V) := b1
  have lV : w.heap.size < V.heap.size := XV.out.lt
  have CD := c_dep (PT.col c0) hd
  unfold DepC at CD
  obtain ⟨d, hdd⟩ : ∃ d : Int, d = ((PT.col c0).dep : Nat) := ⟨_, rfl⟩
  have CD' : Hid (∀ W, Calls Tryz.prog 268 #[.agg #[.int .i64 c0]] W fun e w' => e = .returned (.int .i64 d) ∧ Below W.heap.size W w') := by rw [hdd]; exact CD
  have HD : Hid (d = ((PT.col c0).dep : Nat)) := hdd
  have CA : Hid (∀ W, Calls Tryz.prog 81 #[.slice none 0 0, (PT.col c0).enc] W (AppA W.heap.size [] none (PT.col c0) W)) := fun W => c_app (PT.col c0) W W.heap.size [] none 0 (World.ownsRow_nil W W.heap.size 86 7) (Nat.le_refl _) (by simp only [List.length_nil]; omega)
  simp only [PT.enc] at CA
  clear SV TV b1 bV bU XU sU hU hV ht hT hE hp CD hdd
  go_enter Tryz.func40, Tryz.ntmps40
  go_wp2_with fail
  rw [HV.out]
  refine C.mono ?_
  rintro e w1 ⟨⟨rfl, hs1⟩, hb1⟩
  simp only [PT.enc]
  have X1 : Hid (Box w1 w.heap.size 24 #[.slice none 0 0]) := (hb1.block w.heap.size (by omega)).trans XV.out
  have B2 : Hid (Below w.heap.size w w1) := B1.out.trans (hb1.mono (by omega))
  have HS1 : Hid (StI (w.heap.size + 1) w1 T1 n1 0) := hs1
  clear C hb1 XV B1 HV hs1 lV
  go_wp2_with fail
  refine (CD'.out w1).mono ?_
  rintro e w2 ⟨rfl, hb2⟩
  have X2 : Hid (Box w2 w.heap.size 24 #[.slice none 0 0]) := X1.out.belowS hb2
  have B3 : Hid (Below w.heap.size w w2) := B2.out.trans (hb2.mono B2.out.size)
  have hs2 : StI (w.heap.size + 1) w2 T1 n1 0 := HS1.out.below hb2
  have x0 : w2.cell? ⟨w.heap.size, 0, none⟩ = some (.slice none 0 0) := X2.out.cell 0
  have t0 := X2.out.thaw 0
  clear X1 B2 HS1 hb2 CD'
  by_cases h12 : (12 : Int) < d
  · have E : Hid (finR (.ok (PT.col c0) T1 n1) = .err 16) := by
      have hlt : 12 < (PT.col c0).dep := by have := HD.out; omega
      exact if_pos hlt
    clear CA hs2
    go_wp2
    refine retX3 (v := .slice none 0 0) (v' := .int .i64 16) rfl rfl rfl rfl rfl (put1_box X2.out _) ⟨?_, ?_⟩
    · rw [E.out]; exact ⟨rfl, by decide⟩
    · exact B3.out.setCell (p := ⟨w.heap.size, 0, none⟩) (Nat.le_refl _) _
  · have E : Hid (finR (.ok (PT.col c0) T1 n1) = .ok (PT.col c0) T1 n1) := by
      have hlt : ¬ 12 < (PT.col c0).dep := by have := HD.out; omega
      exact if_neg (t := Res.err 16) hlt
    obtain ⟨aT, cT, k1, k2, hbx, htk⟩ := hs2
    obtain ⟨N, hN⟩ : ∃ N, T1.length = N := ⟨_, rfl⟩
    have HN : Hid (T1.length = N) := hN
    rw [hN] at hbx k1
    obtain ⟨y0, y1, y2⟩ := box3 hbx
    have HTK : Hid (TkR (w.heap.size + 1) w2 aT T1) := htk
    have HX : Hid (Box w2 (w.heap.size + 1) 106 #[.slice aT N cT, .int .i64 (n1 : Int), .int .i64 ((0 : Nat) : Int)]) := hbx
    have lr : w.heap.size + 1 < w2.heap.size := HX.out.lt
    clear hbx htk hN hc hd HD
    go_wp2_with fail
    go_region_held3 (fun x => x.cell? ⟨w.heap.size + 1, 0, none⟩ = some (.slice aT N cT)) (first | go_keep)
      (first | (go_at_call 81; refine (CA.out _).mono ?_; rintro e w3 ⟨L1, a1, c1, hL1, rfl, hO, hG, hN1⟩
                have hL2 : Hid (L1 = nodesP (PT.col c0) 0) := hL1
                have hb3 := hG.below (fun x e => by cases e) (Nat.le_refl _)
                have HB3 : Hid (Below w2.heap.size w2 w3) := (below_drewN (Below.refl _ _) _).trans hb3
                have HO : Hid (w3.ownsRow w2.heap.size 86 7 (.slice a1 L1.length c1) L1.length (cellsE L1)) := hO
                have X4 : Hid (Box w3 w.heap.size 24 #[.slice none 0 0]) := X2.out.belowS HB3.out
                have yy := far6 HB3.out y0
                have z0 : w3.cell? ⟨w.heap.size, 0, none⟩ = some (.slice none 0 0) := X4.out.cell 0
                have o0 := X4.out.thaw 0
                have sl : w.heap.size ≠ w.heap.size + 1 := by omega
                clear hL1 hO hG hN1 hb3))
    all_goals
      go_wp2
      refine retX3 (v := .slice aT N cT) (v' := .int .i64 0) rfl rfl rfl rfl rfl (put1_box X4.out _) ⟨?_, ?_⟩
      · rw [E.out]
        have e2 := hL2.out
        have lw := B3.out.size
        have HTK3 : TkR (w.heap.size + 1) w3 aT T1 := HTK.out.below (HB3.out.mono (by omega))
        refine ⟨a1, c1, aT, cT, ?_, ?_, by rw [HN.out]; exact k1, k2, ?_⟩
        · rw [← e2, HN.out]
        · rw [← e2]
          refine World.ownsRow.down (own_same HO.out fun x ex => ?_) (Nat.le_of_lt (Nat.lt_of_succ_lt lr))
          rw [ob_slice] at ex
          have := (own_blkN HO.out x ex).1
          exact Below.heap_setCell w3 ⟨w.heap.size, 0, none⟩ _ x (by show x ≠ w.heap.size; omega)
        · exact (HTK3.less X4.out).below ((Below.refl w.heap.size w3).setCell (p := ⟨w.heap.size, 0, none⟩) (Nat.le_refl _) _)
      · exact (B3.out.trans (HB3.out.mono B3.out.size)).setCell (p := ⟨w.heap.size, 0, none⟩) (Nat.le_refl _) _
set_option maxRecDepth 100000 in
set_option maxHeartbeats 8000000 in
theorem c_reO_una (T : List ByteArray) (a : Option Addr) (cap : Nat) (w : World) (h1 : T.length ≤ cap) (h2 : 0 ≤ cap) (ht : TkR w.heap.size w a T) (hT : Tabs w) (hE : TabE w) (o1 : Int) (p1 : PT) (T1 : List ByteArray) (n1 : Nat) (hp : Parses (.ch .or) 0 T 0 (.ok (PT.una o1 p1) T1 n1)) (hd : (PT.una o1 p1).dep ≤ 1048576) (hc : (PT.una o1 p1).cnt ≤ 40) :
    Calls Tryz.prog 40 #[.slice a T.length cap] w fun e w' => AnsX w.heap.size (finR (.ok (PT.una o1 p1) T1 n1)) e w' ∧ Below w.heap.size w w' := by
  obtain ⟨U, hU⟩ : ∃ Q, w.alloc (.cells #[.slice none 0 0] 24) = Q := ⟨_, rfl⟩
  obtain ⟨V, hV⟩ : ∃ Q, U.alloc (.cells #[.slice a T.length cap, .int .i64 0, .int .i64 0] 106) = Q := ⟨_, rfl⟩
  have HV : Hid ((w.alloc (.cells #[.slice none 0 0] 24)).alloc (.cells #[.slice a T.length cap, .int .i64 0, .int .i64 0] 106) = V) := by unfold Hid; rw [hU, hV]
  have bU : Below w.heap.size w U := by rw [← hU]; exact (Below.refl _ _).alloc (Nat.le_refl _) _
  have sU : U.heap.size = w.heap.size + 1 := by rw [← hU]; simp
  have bV : Below U.heap.size U V := by rw [← hV]; exact (Below.refl _ _).alloc (Nat.le_refl _) _
  have XU : Box U w.heap.size 24 #[.slice none 0 0] := by rw [← hU]; exact Box.new _ _ _
  have XV : Hid (Box V w.heap.size 24 #[.slice none 0 0]) := XU.belowS bV
  have b1 : Below w.heap.size w V := bU.trans (bV.mono (by omega))
  have SV : StI (w.heap.size + 1) V T 0 0 := by
    refine ⟨a, cap, h1, h2, ?_, (ht.below b1).up (by omega)⟩
    rw [← sU, ← hV]; exact Box.new _ _ _
  have TV : TbG (w.heap.size + 1) V := ⟨w, hT, hE, by omega, b1⟩
  have C := ic_expr T (w.heap.size + 1) V 0 0 (.ok (PT.una o1 p1) T1 n1) SV TV (by omega) (by omega) hp
  have B1 : Hid (Below w.heap.size w V) := b1
  have lV : w.heap.size < V.heap.size := XV.out.lt
  have CD := c_dep (PT.una o1 p1) hd
  unfold DepC at CD
  obtain ⟨d, hdd⟩ : ∃ d : Int, d = ((PT.una o1 p1).dep : Nat) := ⟨_, rfl⟩
  have CD' : Hid (∀ W, Calls Tryz.prog 269 #[.agg #[.int .i64 o1, p1.enc]] W fun e w' => e = .returned (.int .i64 d) ∧ Below W.heap.size W w') := by rw [hdd]; exact CD
  have HD : Hid (d = ((PT.una o1 p1).dep : Nat)) := hdd
  have CA : Hid (∀ W, Calls Tryz.prog 81 #[.slice none 0 0, (PT.una o1 p1).enc] W (AppA W.heap.size [] none (PT.una o1 p1) W)) := fun W => c_app (PT.una o1 p1) W W.heap.size [] none 0 (World.ownsRow_nil W W.heap.size 86 7) (Nat.le_refl _) (by simp only [List.length_nil]; omega)
  simp only [PT.enc] at CA
  clear SV TV b1 bV bU XU sU hU hV ht hT hE hp CD hdd
  go_enter Tryz.func40, Tryz.ntmps40
  go_wp2_with fail
  rw [HV.out]
  refine C.mono ?_
  rintro e w1 ⟨⟨rfl, hs1⟩, hb1⟩
  simp only [PT.enc]
  have X1 : Hid (Box w1 w.heap.size 24 #[.slice none 0 0]) := (hb1.block w.heap.size (by omega)).trans XV.out
  have B2 : Hid (Below w.heap.size w w1) := B1.out.trans (hb1.mono (by omega))
  have HS1 : Hid (StI (w.heap.size + 1) w1 T1 n1 0) := hs1
  clear C hb1 XV B1 HV hs1 lV
  go_wp2_with fail
  refine (CD'.out w1).mono ?_
  rintro e w2 ⟨rfl, hb2⟩
  have X2 : Hid (Box w2 w.heap.size 24 #[.slice none 0 0]) := X1.out.belowS hb2
  have B3 : Hid (Below w.heap.size w w2) := B2.out.trans (hb2.mono B2.out.size)
  have hs2 : StI (w.heap.size + 1) w2 T1 n1 0 := HS1.out.below hb2
  have x0 : w2.cell? ⟨w.heap.size, 0, none⟩ = some (.slice none 0 0) := X2.out.cell 0
  have t0 := X2.out.thaw 0
  clear X1 B2 HS1 hb2 CD'
  by_cases h12 : (12 : Int) < d
  · have E : Hid (finR (.ok (PT.una o1 p1) T1 n1) = .err 16) := by
      have hlt : 12 < (PT.una o1 p1).dep := by have := HD.out; omega
      exact if_pos hlt
    clear CA hs2
    go_wp2
    refine retX3 (v := .slice none 0 0) (v' := .int .i64 16) rfl rfl rfl rfl rfl (put1_box X2.out _) ⟨?_, ?_⟩
    · rw [E.out]; exact ⟨rfl, by decide⟩
    · exact B3.out.setCell (p := ⟨w.heap.size, 0, none⟩) (Nat.le_refl _) _
  · have E : Hid (finR (.ok (PT.una o1 p1) T1 n1) = .ok (PT.una o1 p1) T1 n1) := by
      have hlt : ¬ 12 < (PT.una o1 p1).dep := by have := HD.out; omega
      exact if_neg (t := Res.err 16) hlt
    obtain ⟨aT, cT, k1, k2, hbx, htk⟩ := hs2
    obtain ⟨N, hN⟩ : ∃ N, T1.length = N := ⟨_, rfl⟩
    have HN : Hid (T1.length = N) := hN
    rw [hN] at hbx k1
    obtain ⟨y0, y1, y2⟩ := box3 hbx
    have HTK : Hid (TkR (w.heap.size + 1) w2 aT T1) := htk
    have HX : Hid (Box w2 (w.heap.size + 1) 106 #[.slice aT N cT, .int .i64 (n1 : Int), .int .i64 ((0 : Nat) : Int)]) := hbx
    have lr : w.heap.size + 1 < w2.heap.size := HX.out.lt
    clear hbx htk hN hc hd HD
    go_wp2_with fail
    go_region_held3 (fun x => x.cell? ⟨w.heap.size + 1, 0, none⟩ = some (.slice aT N cT)) (first | go_keep)
      (first | (go_at_call 81; refine (CA.out _).mono ?_; rintro e w3 ⟨L1, a1, c1, hL1, rfl, hO, hG, hN1⟩
                have hL2 : Hid (L1 = nodesP (PT.una o1 p1) 0) := hL1
                have hb3 := hG.below (fun x e => by cases e) (Nat.le_refl _)
                have HB3 : Hid (Below w2.heap.size w2 w3) := (below_drewN (Below.refl _ _) _).trans hb3
                have HO : Hid (w3.ownsRow w2.heap.size 86 7 (.slice a1 L1.length c1) L1.length (cellsE L1)) := hO
                have X4 : Hid (Box w3 w.heap.size 24 #[.slice none 0 0]) := X2.out.belowS HB3.out
                have yy := far6 HB3.out y0
                have z0 : w3.cell? ⟨w.heap.size, 0, none⟩ = some (.slice none 0 0) := X4.out.cell 0
                have o0 := X4.out.thaw 0
                have sl : w.heap.size ≠ w.heap.size + 1 := by omega
                clear hL1 hO hG hN1 hb3))
    all_goals
      go_wp2
      refine retX3 (v := .slice aT N cT) (v' := .int .i64 0) rfl rfl rfl rfl rfl (put1_box X4.out _) ⟨?_, ?_⟩
      · rw [E.out]
        have e2 := hL2.out
        have lw := B3.out.size
        have HTK3 : TkR (w.heap.size + 1) w3 aT T1 := HTK.out.below (HB3.out.mono (by omega))
        refine ⟨a1, c1, aT, cT, ?_, ?_, by rw [HN.out]; exact k1, k2, ?_⟩
        · rw [← e2, HN.out]
        · rw [← e2]
          refine World.ownsRow.down (own_same HO.out fun x ex => ?_) (Nat.le_of_lt (Nat.lt_of_succ_lt lr))
          rw [ob_slice] at ex
          have := (own_blkN HO.out x ex).1
          exact Below.heap_setCell w3 ⟨w.heap.size, 0, none⟩ _ x (by show x ≠ w.heap.size; omega)
        · exact (HTK3.less X4.out).below ((Below.refl w.heap.size w3).setCell (p := ⟨w.heap.size, 0, none⟩) (Nat.le_refl _) _)
      · exact (B3.out.trans (HB3.out.mono B3.out.size)).setCell (p := ⟨w.heap.size, 0, none⟩) (Nat.le_refl _) _
set_option maxRecDepth 100000 in
set_option maxHeartbeats 8000000 in
theorem c_reO_bin (T : List ByteArray) (a : Option Addr) (cap : Nat) (w : World) (h1 : T.length ≤ cap) (h2 : 0 ≤ cap) (ht : TkR w.heap.size w a T) (hT : Tabs w) (hE : TabE w) (o1 : Int) (p1 u1 : PT) (T1 : List ByteArray) (n1 : Nat) (hp : Parses (.ch .or) 0 T 0 (.ok (PT.bin o1 p1 u1) T1 n1)) (hd : (PT.bin o1 p1 u1).dep ≤ 1048576) (hc : (PT.bin o1 p1 u1).cnt ≤ 40) :
    Calls Tryz.prog 40 #[.slice a T.length cap] w fun e w' => AnsX w.heap.size (finR (.ok (PT.bin o1 p1 u1) T1 n1)) e w' ∧ Below w.heap.size w w' := by
  obtain ⟨U, hU⟩ : ∃ Q, w.alloc (.cells #[.slice none 0 0] 24) = Q := ⟨_, rfl⟩
  obtain ⟨V, hV⟩ : ∃ Q, U.alloc (.cells #[.slice a T.length cap, .int .i64 0, .int .i64 0] 106) = Q := ⟨_, rfl⟩
  have HV : Hid ((w.alloc (.cells #[.slice none 0 0] 24)).alloc (.cells #[.slice a T.length cap, .int .i64 0, .int .i64 0] 106) = V) := by unfold Hid; rw [hU, hV]
  have bU : Below w.heap.size w U := by rw [← hU]; exact (Below.refl _ _).alloc (Nat.le_refl _) _
  have sU : U.heap.size = w.heap.size + 1 := by rw [← hU]; simp
  have bV : Below U.heap.size U V := by rw [← hV]; exact (Below.refl _ _).alloc (Nat.le_refl _) _
  have XU : Box U w.heap.size 24 #[.slice none 0 0] := by rw [← hU]; exact Box.new _ _ _
  have XV : Hid (Box V w.heap.size 24 #[.slice none 0 0]) := XU.belowS bV
  have b1 : Below w.heap.size w V := bU.trans (bV.mono (by omega))
  have SV : StI (w.heap.size + 1) V T 0 0 := by
    refine ⟨a, cap, h1, h2, ?_, (ht.below b1).up (by omega)⟩
    rw [← sU, ← hV]; exact Box.new _ _ _
  have TV : TbG (w.heap.size + 1) V := ⟨w, hT, hE, by omega, b1⟩
  have C := ic_expr T (w.heap.size + 1) V 0 0 (.ok (PT.bin o1 p1 u1) T1 n1) SV TV (by omega) (by omega) hp
  have B1 : Hid (Below w.heap.size w V) := b1
  have lV : w.heap.size < V.heap.size := XV.out.lt
  have CD := c_dep (PT.bin o1 p1 u1) hd
  unfold DepC at CD
  obtain ⟨d, hdd⟩ : ∃ d : Int, d = ((PT.bin o1 p1 u1).dep : Nat) := ⟨_, rfl⟩
  have CD' : Hid (∀ W, Calls Tryz.prog 270 #[.agg #[.int .i64 o1, p1.enc, u1.enc]] W fun e w' => e = .returned (.int .i64 d) ∧ Below W.heap.size W w') := by rw [hdd]; exact CD
  have HD : Hid (d = ((PT.bin o1 p1 u1).dep : Nat)) := hdd
  have CA : Hid (∀ W, Calls Tryz.prog 81 #[.slice none 0 0, (PT.bin o1 p1 u1).enc] W (AppA W.heap.size [] none (PT.bin o1 p1 u1) W)) := fun W => c_app (PT.bin o1 p1 u1) W W.heap.size [] none 0 (World.ownsRow_nil W W.heap.size 86 7) (Nat.le_refl _) (by simp only [List.length_nil]; omega)
  simp only [PT.enc] at CA
  clear SV TV b1 bV bU XU sU hU hV ht hT hE hp CD hdd
  go_enter Tryz.func40, Tryz.ntmps40
  go_wp2_with fail
  rw [HV.out]
  refine C.mono ?_
  rintro e w1 ⟨⟨rfl, hs1⟩, hb1⟩
  simp only [PT.enc]
  have X1 : Hid (Box w1 w.heap.size 24 #[.slice none 0 0]) := (hb1.block w.heap.size (by omega)).trans XV.out
  have B2 : Hid (Below w.heap.size w w1) := B1.out.trans (hb1.mono (by omega))
  have HS1 : Hid (StI (w.heap.size + 1) w1 T1 n1 0) := hs1
  clear C hb1 XV B1 HV hs1 lV
  go_wp2_with fail
  refine (CD'.out w1).mono ?_
  rintro e w2 ⟨rfl, hb2⟩
  have X2 : Hid (Box w2 w.heap.size 24 #[.slice none 0 0]) := X1.out.belowS hb2
  have B3 : Hid (Below w.heap.size w w2) := B2.out.trans (hb2.mono B2.out.size)
  have hs2 : StI (w.heap.size + 1) w2 T1 n1 0 := HS1.out.below hb2
  have x0 : w2.cell? ⟨w.heap.size, 0, none⟩ = some (.slice none 0 0) := X2.out.cell 0
  have t0 := X2.out.thaw 0
  clear X1 B2 HS1 hb2 CD'
  by_cases h12 : (12 : Int) < d
  · have E : Hid (finR (.ok (PT.bin o1 p1 u1) T1 n1) = .err 16) := by
      have hlt : 12 < (PT.bin o1 p1 u1).dep := by have := HD.out; omega
      exact if_pos hlt
    clear CA hs2
    go_wp2
    refine retX3 (v := .slice none 0 0) (v' := .int .i64 16) rfl rfl rfl rfl rfl (put1_box X2.out _) ⟨?_, ?_⟩
    · rw [E.out]; exact ⟨rfl, by decide⟩
    · exact B3.out.setCell (p := ⟨w.heap.size, 0, none⟩) (Nat.le_refl _) _
  · have E : Hid (finR (.ok (PT.bin o1 p1 u1) T1 n1) = .ok (PT.bin o1 p1 u1) T1 n1) := by
      have hlt : ¬ 12 < (PT.bin o1 p1 u1).dep := by have := HD.out; omega
      exact if_neg (t := Res.err 16) hlt
    obtain ⟨aT, cT, k1, k2, hbx, htk⟩ := hs2
    obtain ⟨N, hN⟩ : ∃ N, T1.length = N := ⟨_, rfl⟩
    have HN : Hid (T1.length = N) := hN
    rw [hN] at hbx k1
    obtain ⟨y0, y1, y2⟩ := box3 hbx
    have HTK : Hid (TkR (w.heap.size + 1) w2 aT T1) := htk
    have HX : Hid (Box w2 (w.heap.size + 1) 106 #[.slice aT N cT, .int .i64 (n1 : Int), .int .i64 ((0 : Nat) : Int)]) := hbx
    have lr : w.heap.size + 1 < w2.heap.size := HX.out.lt
    clear hbx htk hN hc hd HD
    go_wp2_with fail
    go_region_held3 (fun x => x.cell? ⟨w.heap.size + 1, 0, none⟩ = some (.slice aT N cT)) (first | go_keep)
      (first | (go_at_call 81; refine (CA.out _).mono ?_; rintro e w3 ⟨L1, a1, c1, hL1, rfl, hO, hG, hN1⟩
                have hL2 : Hid (L1 = nodesP (PT.bin o1 p1 u1) 0) := hL1
                have hb3 := hG.below (fun x e => by cases e) (Nat.le_refl _)
                have HB3 : Hid (Below w2.heap.size w2 w3) := (below_drewN (Below.refl _ _) _).trans hb3
                have HO : Hid (w3.ownsRow w2.heap.size 86 7 (.slice a1 L1.length c1) L1.length (cellsE L1)) := hO
                have X4 : Hid (Box w3 w.heap.size 24 #[.slice none 0 0]) := X2.out.belowS HB3.out
                have yy := far6 HB3.out y0
                have z0 : w3.cell? ⟨w.heap.size, 0, none⟩ = some (.slice none 0 0) := X4.out.cell 0
                have o0 := X4.out.thaw 0
                have sl : w.heap.size ≠ w.heap.size + 1 := by omega
                clear hL1 hO hG hN1 hb3))
    all_goals
      go_wp2
      refine retX3 (v := .slice aT N cT) (v' := .int .i64 0) rfl rfl rfl rfl rfl (put1_box X4.out _) ⟨?_, ?_⟩
      · rw [E.out]
        have e2 := hL2.out
        have lw := B3.out.size
        have HTK3 : TkR (w.heap.size + 1) w3 aT T1 := HTK.out.below (HB3.out.mono (by omega))
        refine ⟨a1, c1, aT, cT, ?_, ?_, by rw [HN.out]; exact k1, k2, ?_⟩
        · rw [← e2, HN.out]
        · rw [← e2]
          refine World.ownsRow.down (own_same HO.out fun x ex => ?_) (Nat.le_of_lt (Nat.lt_of_succ_lt lr))
          rw [ob_slice] at ex
          have := (own_blkN HO.out x ex).1
          exact Below.heap_setCell w3 ⟨w.heap.size, 0, none⟩ _ x (by show x ≠ w.heap.size; omega)
        · exact (HTK3.less X4.out).below ((Below.refl w.heap.size w3).setCell (p := ⟨w.heap.size, 0, none⟩) (Nat.le_refl _) _)
      · exact (B3.out.trans (HB3.out.mono B3.out.size)).setCell (p := ⟨w.heap.size, 0, none⟩) (Nat.le_refl _) _
theorem c_re (T : List ByteArray) (a : Option Addr) (cap : Nat) (w : World) (h1 : T.length ≤ cap) (h2 : 0 ≤ cap) (ht : TkR w.heap.size w a T) (hT : Tabs w) (hE : TabE w) (r : Res) (hp : Parses (.ch .or) 0 T 0 r) :
    Calls Tryz.prog 40 #[.slice a T.length cap] w fun e w' => AnsX w.heap.size (finR r) e w' ∧ Below w.heap.size w w' := by
  cases r with
  | err c => exact c_reE T a cap w h1 h2 ht hT hE c hp
  | ok p T1 n1 =>
    have hc : p.cnt ≤ 40 := by
      have g := (goes hp (by omega) rfl).2
      have g1 := g.1
      have g2 := g.2.1
      simp only [Lv.cnt0] at g1
      omega
    have hd : p.dep ≤ 1048576 := by have := dep_cnt p; omega
    cases p with
    | con k0 m0 s0 => exact c_reO_con T a cap w h1 h2 ht hT hE k0 m0 s0 T1 n1 hp hd hc
    | col c0 => exact c_reO_col T a cap w h1 h2 ht hT hE c0 T1 n1 hp hd hc
    | una o1 p1 => exact c_reO_una T a cap w h1 h2 ht hT hE o1 p1 T1 n1 hp hd hc
    | bin o1 p1 u1 => exact c_reO_bin T a cap w h1 h2 ht hT hE o1 p1 u1 T1 n1 hp hd hc

end Go.Proofs.YtbpfpjmjmkpjoaaGreatDoor
