/-
  Blocks that live across calls, and rows of the call's own.
-/
import Derived.Test.YtbpfpjmjmkpjoaaGreatDoorMk
import Derived.Laws.AppendOwn
import Derived.Laws.AppendOwnNone
import Derived.Maps.AppendAt
namespace Go.Proofs.YtbpfpjmjmkpjoaaGreatDoor
open Go Go.RowKit
attribute [local go_sem ↓] Go.wp_at_zero Go.wp_at_succ

def ob (a : Option Addr) : Option Nat := a.map Addr.block
theorem ob_slice (a : Option Addr) (n c : Nat) : (Value.slice a n c).ownBlock = ob a := by cases a <;> rfl
theorem own_same {w w' : World} {base e size n : Nat} {v : Value} {xs : List Value} (h : w.ownsRow base e size v n xs) (hs : ∀ g, v.ownBlock = some g → w'.heap[g]? = w.heap[g]?) : w'.ownsRow base e size v n xs := by
  obtain ⟨h1, h2⟩ := h
  refine ⟨h1, ?_⟩
  rcases h2 with h0 | ⟨g, cap, cur, hv, hb, hg, hr⟩
  · exact .inl h0
  · exact .inr ⟨g, cap, cur, hv, hb, (hs g (by rw [hv]; rfl)).trans hg, hr⟩
theorem _root_.Go.World.ownsRow.down {w : World} {B B' e size n : Nat} {v : Value} {xs : List Value} (h : w.ownsRow B e size v n xs) (hb : B' ≤ B) : w.ownsRow B' e size v n xs := by
  obtain ⟨k1, k2⟩ := h
  rcases k2 with h0 | ⟨g, cap, cur, hv, hb', hr⟩
  · exact ⟨k1, .inl h0⟩
  · exact ⟨k1, .inr ⟨g, cap, cur, hv, by omega, hr⟩⟩
structure Inn (B E : Nat) (w w' : World) : Prop where
  os : w'.os = w.os
  tape : w'.tape = w.tape
  output : w'.output = w.output
  size : w.heap.size ≤ w'.heap.size
  block : ∀ k, k < w.heap.size → (k < B ∨ E ≤ k) → w'.heap[k]? = w.heap[k]?
theorem Inn.trans {B E : Nat} {a b c : World} (h : Inn B E a b) (k : Inn B E b c) : Inn B E a c :=
  ⟨k.os.trans h.os, k.tape.trans h.tape, k.output.trans h.output, Nat.le_trans h.size k.size, fun i hi ho => (k.block i (Nat.lt_of_lt_of_le hi h.size) ho).trans (h.block i hi ho)⟩
theorem Inn.of_below {B E : Nat} {w w' : World} (h : Below w.heap.size w w') : Inn B E w w' := ⟨h.os, h.tape, h.output, h.size, fun k hk _ => h.block k hk⟩
theorem Inn.of_grown {B E : Nat} {w w' : World} {row : Option Nat} (h : w.grownBy w' row) (hr : ∀ g, row = some g → B ≤ g ∧ g < E) : Inn B E w w' :=
  ⟨h.os, h.tape, h.output, h.size, fun k hk ho => h.block k hk (fun e => by have := hr k e.symm; omega)⟩
theorem Inn.below {B E b : Nat} {w w' : World} (h : Inn B E w w') (hb : b ≤ B) (hw : b ≤ w.heap.size) : Below b w w' := ⟨h.os, h.tape, h.output, h.size, fun k hk => h.block k (by omega) (.inl (by omega))⟩
def Box (w : World) (g : Nat) (t : TypeId) (c : Array Value) : Prop := w.heap[g]? = some (.cells c t)
theorem Box.new (w : World) (c : Array Value) (t : TypeId) : Box (w.alloc (.cells c t)) w.heap.size t c := by
  unfold Box; show (w.heap.push _)[w.heap.size]? = _; simp
theorem Box.new2 (w : World) (o : Obj) (c : Array Value) (t : TypeId) : Box ((w.alloc o).alloc (.cells c t)) (w.heap.size + 1) t c := by
  have e : (w.alloc o).heap.size = w.heap.size + 1 := by simp
  have := Box.new (w.alloc o) c t
  rwa [e] at this
theorem Box.lt {w : World} {g : Nat} {t : TypeId} {c : Array Value} (h : Box w g t c) : g < w.heap.size := by
  rcases Nat.lt_or_ge g w.heap.size with h1 | h1
  · exact h1
  · unfold Box at h; rw [Array.getElem?_eq_none h1] at h; cases h
theorem Box.below {w w' : World} {g B : Nat} {t : TypeId} {c : Array Value} (h : Box w g t c) (hb : Below B w w') (hg : g < B) : Box w' g t c := (hb.block g hg).trans h
theorem Box.belowS {w w' : World} {g : Nat} {t : TypeId} {c : Array Value} (h : Box w g t c) (hb : Below w.heap.size w w') : Box w' g t c := (hb.block g h.lt).trans h
theorem Box.alloc {w : World} {g : Nat} {t : TypeId} {c : Array Value} (h : Box w g t c) (o : Obj) : Box (w.alloc o) g t c := (Below.heap_alloc w o g h.lt).trans h
theorem Box.drewN {w : World} {g : Nat} {t : TypeId} {c : Array Value} (h : Box w g t c) (q : Nat) : Box (w.drewN q) g t c := h
theorem Box.cell {w : World} {g : Nat} {t : TypeId} {c : Array Value} (h : Box w g t c) (i : Nat) : w.cell? ⟨g, i, none⟩ = c[i]? := by unfold Box at h; simp [World.cell?, h]
theorem Box.thaw {w : World} {g : Nat} {t : TypeId} {c : Array Value} (h : Box w g t c) (i : Nat) : w.frozen? ⟨g, i, none⟩ = false := by unfold Box at h; simp [World.frozen?, h]
theorem Box.set {w : World} {g : Nat} {t : TypeId} {c : Array Value} (h : Box w g t c) (i : Nat) (v : Value) : Box (w.setCell ⟨g, i, none⟩ v) g t (c.setIfInBounds i v) := by
  unfold Box at *; simp [World.setCell, Array.getElem?_modify, h]
theorem Box.setOther {w : World} {g : Nat} {t : TypeId} {c : Array Value} (h : Box w g t c) (p : Addr) (v : Value) (hp : g ≠ p.block) : Box (w.setCell p v) g t c := (Below.heap_setCell w p v g hp).trans h
theorem Box.inn {w w' : World} {g B E : Nat} {t : TypeId} {c : Array Value} (h : Box w g t c) (hb : Inn B E w w') (hg : E ≤ g) : Box w' g t c := (hb.block g h.lt (.inr hg)).trans h
theorem addr_add (b off i : Nat) : (⟨b, off, none⟩ : Addr).add i = ⟨b, off + i, none⟩ := by unfold Addr.add; split <;> simp_all
theorem src1 {w : World} {ad : Addr} {n : Nat} {xs : List Value} (hr : RdV w (some ad) n xs) : ∀ j u, xs[j]? = some u → w.cell? (ad.add j) = some u := by
  intro j u hu
  have hj : j < n := by rw [← hr.1]; exact (List.getElem?_eq_some_iff.1 hu).1
  obtain ⟨b, off, e, _, hc⟩ := hr.2 (by omega)
  cases e
  rw [addr_add, hc j hj, hu]
theorem own_src {w : World} {base e size n m cap : Nat} {a : Option Addr} {xs : List Value} (h : w.ownsRow base e size (.slice a m cap) n xs) : a = none → cap = 0 := by
  rcases own_form h with ⟨hv, _⟩ | ⟨g, c, hv, _, _⟩
  · cases hv; exact fun _ => rfl
  · cases hv; exact fun h => by cases h
theorem own_slc {w : World} {base e size n : Nat} {v : Value} {xs : List Value} (h : w.ownsRow base e size v n xs) : ∃ a c, v = .slice a n c ∧ ∀ g, ob a = some g → base ≤ g ∧ g < w.heap.size := by
  rcases own_form h with ⟨rfl, rfl⟩ | ⟨g, cap, rfl, h1, h2⟩
  · exact ⟨none, 0, rfl, fun g e => by cases e⟩
  · exact ⟨some ⟨g, 0, none⟩, cap, rfl, fun g' e => by cases e; exact ⟨h1, h2⟩⟩
theorem app_any {P : Program} (w : World) {ops : Array Oper} {rest : List Oper} {o : Oper} {a : Act} {Q : Exit → Act → World → Prop} (hgd : o.guard = none) (s x : Operand) (t : TypeId)
    (ho : o.op = .call { callee := .builtin .append, args := #[s, x], argTypes := #[t, t] })
    (base : Nat) (e : TypeId) (i : TypeInfo) (z : Value) (size bytes : Nat) (ht : P.underlying t = some (.slice e)) (hi : P.info? e = some i) (hz : i.zero = some z)
    (hsize : i.size = size) (hby : i.bytes = bytes) (hzs : z.cells.size = size) (hsz : 0 < size)
    (v : Value) (n : Nat) (xs : List Value) (hs : a.eval s = v) (hown : w.ownsRow base e size v n xs)
    (ax : Option Addr) (m c : Nat) (news : List Value) (hx : a.eval x = .slice ax m c) (hnone : ax = none → m = 0 ∧ c = 0) (hl : news.length = m * size) (hnews : ∀ ad, ax = some ad → ∀ j u, news[j]? = some u → w.cell? (ad.add j) = some u) (h1 : ∀ u ∈ news, u.oneCell' = true)
    (h63 : n + m ≤ maxLen) (hbytes : (n + m) * bytes ≤ 140737488355328) (hbase : base ≤ w.heap.size)
    (h : ∀ a' c' w', w'.ownsRow base e size (.slice a' (n + m) c') (n + m) (xs ++ news) → w.grownBy w' v.ownBlock → (∀ g, ob a' = some g → v.ownBlock = some g ∨ g = w.heap.size) → wpList P ops Q rest (a.put o.dst (.slice a' (n + m) c')) w') : wpList P ops Q (o :: rest) a w := by
  cases ax with
  | none =>
    obtain ⟨rfl, rfl⟩ := hnone rfl
    have hn : news = [] := List.eq_nil_of_length_eq_zero (by simpa using hl)
    subst hn
    obtain ⟨a', c', rfl, _⟩ := own_slc hown
    refine wpList_append_own_none hgd s x t ho base e i size ht hi _ n xs hs hown hx ?_
    exact h a' c' w (by simpa using hown) (World.grownBy.refl _ _) (fun g e => .inl (by rw [ob_slice]; exact e))
  | some ad =>
    refine wpList_append_own_at w hgd s x t ho base e i z size bytes ht hi hz hsize hby hzs hsz v n xs hs hown ad m c news hx hl (hnews ad rfl) h1 h63 hbytes hbase ?_
    intro v' w' hown' hgr hnil hblk
    obtain ⟨a', c', rfl, _⟩ := own_slc hown'
    rw [ob_slice] at hblk
    exact h a' c' w' hown' hgr (fun g e => hblk.elim (fun k => .inl (k ▸ e)) (fun k => .inr (Option.some.inj (e.symm.trans k))))
theorem rdV_none {w : World} {a : Option Addr} {n c : Nat} {xs : List Value} (h : RdV w a n xs) (hs : a = none → c = 0) : a = none → n = 0 ∧ c = 0 := by
  intro e
  refine ⟨?_, hs e⟩
  rcases Nat.eq_zero_or_pos n with h0 | h0
  · exact h0
  · obtain ⟨b, off, e', _⟩ := h.2 h0; rw [e] at e'; cases e'
theorem map_one {α : Type} (f : α → Value) (hf : ∀ x, (f x).oneCell' = true) (l : List α) : ∀ u ∈ l.map f, u.oneCell' = true := by
  intro u hu; obtain ⟨x, _, rfl⟩ := List.mem_map.1 hu; exact hf x
theorem Box.grown {w w' : World} {g : Nat} {t : TypeId} {c : Array Value} {row : Option Nat} (h : Box w g t c) (hg : w.grownBy w' row) (hne : row ≠ some g) : Box w' g t c := (hg.block g h.lt (fun e => hne e.symm)).trans h
theorem Box.innO {w w' : World} {g B E : Nat} {t : TypeId} {c : Array Value} (h : Box w g t c) (hb : Inn B E w w') (hg : g < B ∨ E ≤ g) : Box w' g t c := (hb.block g h.lt hg).trans h
theorem far6 {w w' : World} {b o : Nat} {u : Value} (hb : Below w.heap.size w w') (h : w.cell? ⟨b, o, none⟩ = some u) : w'.cell? ⟨b, o, none⟩ = some u :=
  (hb.cell (p := ⟨b, o, none⟩) (World.block_lt_of_cell? w ⟨b, o, none⟩ h)).trans h

end Go.Proofs.YtbpfpjmjmkpjoaaGreatDoor
