/-
  The record that is drawn: its state on the way.
-/
import Derived.Test.YtbjefhdacfijpaaDoorTa
import Derived.Test.YtbjefhdacfijpaaDoorZb
import Derived.Test.YtbjefhdacfijpaaDoorDn
namespace Go.Proofs.YtbjefhdacfijpaaDoor
open Go Go.RowKit
attribute [local go_sem ↓] Go.wp_at_zero Go.wp_at_succ


/-- Where a draw of a record stands: the source, the box of the answer, the box of the record. -/
structure LS (w0 w : World) (g : Nat) (a : Option Addr) (n c : Nat) (zs : List Int) (wc : World) (T r : Nat) (D : DR) : Prop where
  inn : Inn g (g + 1) w wc
  drw : Drw w0 wc g a n c T zs
  r0 : Box wc w.heap.size 28 #[.int .i64 0, .int .i64 0, .int .i64 0, .int .i64 0, .int .i64 0, .int .i64 0, .int .i64 0, .int .i64 0, .string ⟨#[]⟩, .string ⟨#[]⟩]
  bx : Box wc r 28 (agR D)
  lt : w.heap.size < r
  gl : g < w.heap.size
theorem LS.next {w0 w wc wd : World} {g n c T r : Nat} {a : Option Addr} {zs : List Int} {D : DR} (h : LS w0 w g a n c zs wc T r D) (hi : Inn g (g + 1) wc wd) (hd : Drw w0 wd g a n c (T + 1) zs) : LS w0 w g a n c zs wd (T + 1) r D :=
  ⟨h.inn.trans hi, hd, h.r0.innO hi (.inr (by have := h.gl; omega)), h.bx.innO hi (.inr (by have := h.gl; have := h.lt; omega)), h.lt, h.gl⟩
theorem LS.below {w0 w wc wd : World} {g n c T r : Nat} {a : Option Addr} {zs : List Int} {D : DR} (h : LS w0 w g a n c zs wc T r D) (hb : Below wc.heap.size wc wd) : LS w0 w g a n c zs wd T r D :=
  ⟨h.inn.trans (Inn.of_below hb), h.drw.below hb, h.r0.belowS hb, h.bx.belowS hb, h.lt, h.gl⟩
theorem LS.store {w0 w wc : World} {g n c T r : Nat} {a : Option Addr} {zs : List Int} {D : DR} (h : LS w0 w g a n c zs wc T r D) (i : Nat) (v : Value) (D' : DR) (he : (agR D).setIfInBounds i v = agR D') : LS w0 w g a n c zs (wc.setCell ⟨r, i, none⟩ v) T r D' := by
  have hs : Inn r (r + 1) wc (wc.setCell ⟨r, i, none⟩ v) := (Inn.refl r (r + 1) wc).set _ _ ⟨Nat.le_refl _, Nat.lt_succ_self _⟩
  have l1 := h.lt
  have l2 := h.gl
  have l3 := h.drw.behind
  refine ⟨⟨hs.os.trans h.inn.os, hs.tape.trans h.inn.tape, hs.output.trans h.inn.output, Nat.le_trans h.inn.size hs.size, fun k hk ho => (hs.block k (by have := h.inn.size; omega) (.inl (by omega))).trans (h.inn.block k hk ho)⟩, h.drw.inn hs (.inl (by omega)) (by omega), h.r0.innO hs (.inl (by omega)), ?_, h.lt, h.gl⟩
  have := h.bx.set i v
  rwa [he] at this
theorem retR1 {fn : Func} {p : Tmp} (h : fn.results = #[.cell p 28]) {Q : Ending → World → Prop} {a : Act} {w : World} {r : Nat} {D : DR} (hp : a.tmps.getD p undef = .pointer (some ⟨r, 0, none⟩)) (hd : a.defers = []) (hb : Box w r 28 (agR D)) (hR : Q (.returned (.agg (agR D))) w) : bodyPost Tryd.prog fn Q .ret a w := by
  refine bodyPost_ret ?_ hd hR
  have hp' : a.tmps[p]?.getD undef = .pointer (some ⟨r, 0, none⟩) := by simpa using hp
  simp only [results, h]
  simp [hp', asAddr, loadVarR hb]

end Go.Proofs.YtbjefhdacfijpaaDoor
