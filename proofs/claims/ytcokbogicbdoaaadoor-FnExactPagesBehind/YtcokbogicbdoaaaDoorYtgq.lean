/-
  How a store that came in is read.
-/
import Derived.Test.YtcokbogicbdoaaaDoorYtcq
import Derived.Test.YtcokbogicbdoaaaDoorZzam
namespace Go.Proofs.YtcokbogicbdoaaaDoor
open Go Go.RowKit Go.ChangeShapes Go.WideShapes Go.Deep Go.WideElems

theorem array9 {α : Type} {cs : Array α} (h : cs.size = 9) : ∃ c0 c1 c2 c3 c4 c5 c6 c7 c8, cs = #[c0, c1, c2, c3, c4, c5, c6, c7, c8] := by
  obtain ⟨l⟩ := cs
  match l, h with
  | [c0, c1, c2, c3, c4, c5, c6, c7, c8], _ => exact ⟨c0, c1, c2, c3, c4, c5, c6, c7, c8, rfl⟩
theorem cells3i : Tryd.prog.cellsOf 3 = 1 := by kernel_rfl
theorem cells4i : Tryd.prog.cellsOf 4 = 1 := by kernel_rfl
theorem cells9i : Tryd.prog.cellsOf 9 = 1 := by kernel_rfl
theorem cellsSS : Tryd.prog.cellsOf 22 = 1 := by kernel_rfl
theorem cellsSI : Tryd.prog.cellsOf 24 = 1 := by kernel_rfl
theorem cellsSP : Tryd.prog.cellsOf 23 = 1 := by kernel_rfl
theorem cellsSR : Tryd.prog.cellsOf 27 = 1 := by kernel_rfl
theorem cellsSF : Tryd.prog.cellsOf 28 = 1 := by kernel_rfl
theorem cellsPG : Tryd.prog.cellsOf 82 = 2 := by kernel_rfl
theorem cellsLD : Tryd.prog.cellsOf 26 = 4 := by kernel_rfl
theorem cellsLR : Tryd.prog.cellsOf 80 = 10 := by kernel_rfl
theorem cellsLF : Tryd.prog.cellsOf 84 = 5 := by kernel_rfl
set_option maxRecDepth 100000 in
theorem texts_of {H : Type} {enc : TypeId × Value → H} {w : World} {held : Bool} {fuel : Nat} {cs : List Value} {x : DataW H × List MemPlace} (h : DataW.trod enc Tryd.prog w 0 (fun _ => true) held fuel 22 cs = some x) :
    ∃ a n c, ∃ ss : List ByteArray, cs = [.slice a n c] ∧ RdV w a n (ss.map Value.string) ∧ n ≤ maxLen ∧ ∀ s ∈ ss, s.size ≤ maxLen := by
  rcases open_strings Tryd.underlying22 Tryd.underlying9 (by kernel_rfl) h with ⟨hcs, _⟩ | ⟨x, l, c, ss, hcs, _, hl, hm, hz, _, hcell, hwz⟩
  · exact ⟨none, 0, 0, [], hcs, ⟨rfl, fun h => absurd h (by omega)⟩, by unfold maxLen; omega, fun _ h => by cases h⟩
  · exact ⟨some x, l, c, _, hcs, rdV_of_row Value.string _ hl (by simpa using hz) hcell, by omega, fun s h => hwz s (List.mem_of_mem_take h)⟩
set_option maxRecDepth 100000 in
theorem numbers_of {H : Type} {enc : TypeId × Value → H} {w : World} {held : Bool} {fuel : Nat} {cs : List Value} {x : DataW H × List MemPlace} (h : DataW.trod enc Tryd.prog w 0 (fun _ => true) held fuel 24 cs = some x) :
    ∃ a n c, ∃ zs : List Int, cs = [.slice a n c] ∧ RdV w a n (zs.map (Value.int .i64)) ∧ n ≤ maxLen := by
  rcases open_ints Tryd.underlying24 Tryd.underlying3 (by kernel_rfl) h with ⟨hcs, _⟩ | ⟨x, l, c, zs, hcs, _, hl, hm, hz, _, hcell, hwz⟩
  · exact ⟨none, 0, 0, [], hcs, ⟨rfl, fun h => absurd h (by omega)⟩, by unfold maxLen; omega⟩
  · exact ⟨some x, l, c, _, hcs, rdV_of_row (Value.int .i64) _ hl (by simpa using hz) hcell, by omega⟩
set_option maxRecDepth 100000 in
theorem pendings_of {H : Type} {enc : TypeId × Value → H} {w : World} {held : Bool} {fuel : Nat} {cs : List Value} {x : DataW H × List MemPlace} (h : DataW.trod enc Tryd.prog w 0 (fun _ => true) held fuel 23 cs = some x) :
    ∃ a n c, ∃ vs : List PP, cs = [.slice a n c] ∧ RdP w a n vs ∧ n ≤ maxLen ∧ ∀ p ∈ vs, p.2.size ≤ maxLen := by
  rcases open_pendings Tryd.underlying23 Tryd.underlying107 (by kernel_rfl) (by kernel_rfl) Tryd.underlying3 Tryd.underlying9 h with hcs | ⟨x, l, c, vs, hcs, hm, hr, hz⟩
  · exact ⟨none, 0, 0, [], hcs, ⟨rfl, fun h => absurd h (by omega)⟩, by unfold maxLen; omega, fun _ h => by cases h⟩
  · exact ⟨some x, l, c, vs, hcs, hr, hm, hz⟩
set_option maxRecDepth 100000 in
theorem disk_of {H : Type} {enc : TypeId × Value → H} {w : World} {held : Bool} {fuel : Nat} {c0 c1 c2 c3 : Value} {x : DataW H × List MemPlace} (h : DataW.trod enc Tryd.prog w 0 (fun _ => true) held fuel 26 [c0, c1, c2, c3] = some x) :
    ∃ (h : HD) (D : DD), c0 = .slice h.a0 h.n0 h.c0 ∧ c1 = .slice h.a1 h.n1 h.c1 ∧ c2 = .bool h.b ∧ c3 = .slice h.a2 h.n2 h.c2 ∧ RdD w h D ∧ h.n0 ≤ maxLen ∧ h.n1 ≤ maxLen ∧ h.n2 ≤ maxLen ∧ (∀ s ∈ D.S, s.size ≤ maxLen) ∧ ∀ p ∈ D.C, p.2.size ≤ maxLen := by
  obtain ⟨xs, n, _, _, _, hlen, hff⟩ := DataW.trod_struct Tryd.underlying26 h
  have g : ∀ i, i < 4 → ∃ y, xs[i]? = some y := fun i hi => ⟨_, List.getElem?_eq_getElem (by rw [hlen]; exact hi)⟩
  obtain ⟨y0, hy0⟩ := g 0 (by omega)
  obtain ⟨y1, hy1⟩ := g 1 (by omega)
  obtain ⟨y2, hy2⟩ := g 2 (by omega)
  obtain ⟨y3, hy3⟩ := g 3 (by omega)
  obtain ⟨a0, n0, k0, ss, e0, r0, m0, s0⟩ := texts_of ((hff 0 _ rfl).trans hy0)
  obtain ⟨a1, n1, k1, vs, e1, r1, m1, s1⟩ := pendings_of ((hff 1 _ rfl).trans hy1)
  obtain ⟨b, e2, _⟩ := DataW.trod_bool Tryd.underlying4 ((hff 2 _ rfl).trans hy2)
  obtain ⟨a2, n2, k2, zs, e3, r2, m2⟩ := numbers_of ((hff 3 _ rfl).trans hy3)
  simp [cells4i, cellsSS, cellsSI, cellsSP] at e0 e1 e2 e3
  exact ⟨⟨a0, n0, k0, a1, n1, k1, b, a2, n2, k2⟩, ⟨ss, vs, b, zs⟩, e0, e1, e2, e3, ⟨rfl, r0, r1, r2⟩, m0, m1, m2, s0, s1⟩
set_option maxRecDepth 100000 in
theorem recs_of {H : Type} {enc : TypeId × Value → H} {w : World} {held : Bool} {fuel : Nat} {cs : List Value} {x : DataW H × List MemPlace} (h : DataW.trod enc Tryd.prog w 0 (fun _ => true) held fuel 27 cs = some x) :
    ∃ a n c, ∃ vs : List DR, cs = [.slice a n c] ∧ RdQ w a n vs ∧ n ≤ maxLen ∧ ∀ v ∈ vs, v.b.size ≤ maxLen ∧ v.a.size ≤ maxLen := by
  rcases Go.Deep.open_slice Tryd.underlying27 h with ⟨h0, _⟩ | ⟨a, len, cap, m, n, D, Pl, hcs, hb, hl, hm, he, hx, hc⟩
  · exact ⟨none, 0, 0, [], h0, ⟨rfl, fun h => absurd h (by omega)⟩, by unfold maxLen; omega, fun _ h => by cases h⟩
  · have hlm : len ≤ m := by rw [he]; split <;> omega
    have hone' : ∀ i, i < len → ∃ v : DR, (∀ j, j < 10 → w.cell? (a.add (i * 10 + j)) = (cQ v)[j]?) ∧ v.b.size ≤ maxLen ∧ v.a.size ≤ maxLen := by
      intro i hi
      obtain ⟨cs', h1, h2⟩ := hc i (by omega)
      rw [cellsLR] at h1
      obtain ⟨_, hl3, hg⟩ := World.cells?_some h1
      obtain ⟨xs, n', _, _, _, hlen, hff⟩ := DataW.trod_struct Tryd.underlying80 h2
      have g : ∀ i, i < 10 → ∃ y, xs[i]? = some y := fun i hi => ⟨_, List.getElem?_eq_getElem (by rw [hlen]; exact hi)⟩
      match cs', hl3 with
      | [c0, c1, c2, c3, c4, c5, c6, c7, c8, c9], _ =>
        obtain ⟨y0, hy0⟩ := g 0 (by omega)
        obtain ⟨y1, hy1⟩ := g 1 (by omega)
        obtain ⟨y2, hy2⟩ := g 2 (by omega)
        obtain ⟨y3, hy3⟩ := g 3 (by omega)
        obtain ⟨y4, hy4⟩ := g 4 (by omega)
        obtain ⟨y5, hy5⟩ := g 5 (by omega)
        obtain ⟨y6, hy6⟩ := g 6 (by omega)
        obtain ⟨y7, hy7⟩ := g 7 (by omega)
        obtain ⟨y8, hy8⟩ := g 8 (by omega)
        obtain ⟨y9, hy9⟩ := g 9 (by omega)
        obtain ⟨k0, e0, _, _⟩ := DataW.trod_int Tryd.underlying3 ((hff 0 _ rfl).trans hy0)
        obtain ⟨k1, e1, _, _⟩ := DataW.trod_int Tryd.underlying3 ((hff 1 _ rfl).trans hy1)
        obtain ⟨k2, e2, _, _⟩ := DataW.trod_int Tryd.underlying3 ((hff 2 _ rfl).trans hy2)
        obtain ⟨k3, e3, _, _⟩ := DataW.trod_int Tryd.underlying3 ((hff 3 _ rfl).trans hy3)
        obtain ⟨k4, e4, _, _⟩ := DataW.trod_int Tryd.underlying3 ((hff 4 _ rfl).trans hy4)
        obtain ⟨k5, e5, _, _⟩ := DataW.trod_int Tryd.underlying3 ((hff 5 _ rfl).trans hy5)
        obtain ⟨k6, e6, _, _⟩ := DataW.trod_int Tryd.underlying3 ((hff 6 _ rfl).trans hy6)
        obtain ⟨k7, e7, _, _⟩ := DataW.trod_int Tryd.underlying3 ((hff 7 _ rfl).trans hy7)
        obtain ⟨k8, e8, _, m8⟩ := DataW.trod_string Tryd.underlying9 ((hff 8 _ rfl).trans hy8)
        obtain ⟨k9, e9, _, m9⟩ := DataW.trod_string Tryd.underlying9 ((hff 9 _ rfl).trans hy9)
        simp [cells3i, cells9i] at e0 e1 e2 e3 e4 e5 e6 e7 e8 e9
        subst e0 e1 e2 e3 e4 e5 e6 e7 e8 e9
        have q0 := hg 0 (by omega)
        have q1 := hg 1 (by omega)
        have q2 := hg 2 (by omega)
        have q3 := hg 3 (by omega)
        have q4 := hg 4 (by omega)
        have q5 := hg 5 (by omega)
        have q6 := hg 6 (by omega)
        have q7 := hg 7 (by omega)
        have q8 := hg 8 (by omega)
        have q9 := hg 9 (by omega)
        rw [Go.Deep.add_add] at q0 q1 q2 q3 q4 q5 q6 q7 q8 q9
        refine ⟨⟨k0, k1, k2, k3, k4, k5, k6, k7, k8, k9⟩, fun j hj => ?_, m8, m9⟩
        match j, hj with
        | 0, _ => exact q0
        | 1, _ => exact q1
        | 2, _ => exact q2
        | 3, _ => exact q3
        | 4, _ => exact q4
        | 5, _ => exact q5
        | 6, _ => exact q6
        | 7, _ => exact q7
        | 8, _ => exact q8
        | 9, _ => exact q9
    haveI : Inhabited DR := ⟨zeroR⟩
    obtain ⟨f, hf⟩ := Go.Deep.choose_lt (α := DR) hone'
    refine ⟨some a, len, cap, (List.range len).map f, hcs, ⟨by simp, fun hpos => ?_⟩, by omega, ?_⟩
    · obtain ⟨b, off, spot⟩ := a
      have hc0 := (hf 0 hpos).1 0 (by omega)
      have hspot : spot = none := by simpa [Addr.add] using World.cell?_spot hc0
      subst hspot
      refine ⟨b, off, rfl, World.block_lt_of_cell? w ⟨b, off, none⟩ (by have := hc0; rwa [addr_add, show off + (0 * 10 + 0) = off by omega] at this), fun i hi j hj => ?_⟩
      have hg := (hf i hi).1 j hj
      rw [addr_add, show off + (i * 10 + j) = off + i * 10 + j by omega] at hg
      have hd : ((List.range len).map f).getD i zeroR = f i := by rw [List.getD_eq_getElem?_getD, List.getElem?_map, List.getElem?_range hi]; rfl
      rw [hd]
      exact hg
    · intro v hv
      obtain ⟨i, hi, rfl⟩ := List.mem_map.1 hv
      exact (hf i (List.mem_range.1 hi)).2
set_option maxRecDepth 100000 in
theorem page_of {H : Type} {enc : TypeId × Value → H} {w : World} {held : Bool} {fuel : Nat} {cs : List Value} {x : DataW H × List MemPlace} (h : DataW.trod enc Tryd.prog w 0 (fun _ => true) held fuel 82 cs = some x) (hl : cs.length = 2) :
    ∃ (p : G.HG) (D : G.DG), cs = [.int .i64 p.l, .slice p.a p.n p.c] ∧ G.RdG w p D ∧ p.n ≤ maxLen ∧ ∀ s ∈ D.S, s.size ≤ maxLen := by
  obtain ⟨xs, n, _, _, _, hlen, hff⟩ := DataW.trod_struct Tryd.underlying82 h
  have g : ∀ i, i < 2 → ∃ y, xs[i]? = some y := fun i hi => ⟨_, List.getElem?_eq_getElem (by rw [hlen]; exact hi)⟩
  match cs, hl with
  | [c0, c1], _ =>
    obtain ⟨y0, hy0⟩ := g 0 (by omega)
    obtain ⟨y1, hy1⟩ := g 1 (by omega)
    obtain ⟨k0, e0, _, _⟩ := DataW.trod_int Tryd.underlying3 ((hff 0 _ rfl).trans hy0)
    obtain ⟨a1, n1, k1, ss, e1, r1, m1, s1⟩ := texts_of ((hff 1 _ rfl).trans hy1)
    simp [cells3i, cellsSS] at e0 e1
    subst e0 e1
    exact ⟨⟨k0, a1, n1, k1⟩, ⟨k0, ss⟩, rfl, ⟨rfl, r1⟩, m1, s1⟩
set_option maxRecDepth 100000 in
theorem frames_of {H : Type} {enc : TypeId × Value → H} {w : World} {held : Bool} {fuel : Nat} {cs : List Value} {x : DataW H × List MemPlace} (h : DataW.trod enc Tryd.prog w 0 (fun _ => true) held fuel 28 cs = some x) :
    ∃ a n c, ∃ fs : List FF, cs = [.slice a n c] ∧ RdF w a n fs ∧ n ≤ maxLen ∧ ∀ i, i < n → (fs.getD i zeroF).h.n ≤ maxLen ∧ ∀ s ∈ (fs.getD i zeroF).D.S, s.size ≤ maxLen := by
  rcases Go.Deep.open_slice Tryd.underlying28 h with ⟨h0, _⟩ | ⟨a, len, cap, m, n, D, Pl, hcs, hb, hl, hm, he, hx, hc⟩
  · exact ⟨none, 0, 0, [], h0, ⟨rfl, fun h => absurd h (by omega), fun i h => absurd h (by omega)⟩, by unfold maxLen; omega, fun i h => absurd h (by omega)⟩
  · have hlm : len ≤ m := by rw [he]; split <;> omega
    have hone' : ∀ i, i < len → ∃ v : FF, (∀ j, j < 5 → w.cell? (a.add (i * 5 + j)) = (cF v)[j]?) ∧ G.RdG w v.h v.D ∧ v.h.n ≤ maxLen ∧ ∀ s ∈ v.D.S, s.size ≤ maxLen := by
      intro i hi
      obtain ⟨cs', h1, h2⟩ := hc i (by omega)
      rw [cellsLF] at h1
      obtain ⟨_, hl3, hg⟩ := World.cells?_some h1
      obtain ⟨xs, n', _, _, _, hlen, hff⟩ := DataW.trod_struct Tryd.underlying84 h2
      have g : ∀ i, i < 4 → ∃ y, xs[i]? = some y := fun i hi => ⟨_, List.getElem?_eq_getElem (by rw [hlen]; exact hi)⟩
      match cs', hl3 with
      | [c0, c1, c2, c3, c4], _ =>
        obtain ⟨y0, hy0⟩ := g 0 (by omega)
        obtain ⟨y1, hy1⟩ := g 1 (by omega)
        obtain ⟨y2, hy2⟩ := g 2 (by omega)
        obtain ⟨y3, hy3⟩ := g 3 (by omega)
        obtain ⟨k0, e0, _, _⟩ := DataW.trod_int Tryd.underlying3 ((hff 0 _ rfl).trans hy0)
        obtain ⟨pg, DG, e1, rg, mg, sg⟩ := page_of ((hff 1 _ rfl).trans hy1) (by simp [cellsPG])
        obtain ⟨b, e2, _⟩ := DataW.trod_bool Tryd.underlying4 ((hff 2 _ rfl).trans hy2)
        obtain ⟨k3, e3, _, _⟩ := DataW.trod_int Tryd.underlying3 ((hff 3 _ rfl).trans hy3)
        simp [cells3i, cells4i, cellsPG] at e0 e1 e2 e3
        obtain ⟨e1a, e1b⟩ := e1
        subst e0 e1a e1b e2 e3
        have q0 := hg 0 (by omega)
        have q1 := hg 1 (by omega)
        have q2 := hg 2 (by omega)
        have q3 := hg 3 (by omega)
        have q4 := hg 4 (by omega)
        rw [Go.Deep.add_add] at q0 q1 q2 q3 q4
        refine ⟨⟨k0, pg, DG, b, k3⟩, fun j hj => ?_, rg, mg, sg⟩
        match j, hj with
        | 0, _ => exact q0
        | 1, _ => exact q1
        | 2, _ => exact q2
        | 3, _ => exact q3
        | 4, _ => exact q4
    haveI : Inhabited FF := ⟨zeroF⟩
    obtain ⟨f, hf⟩ := Go.Deep.choose_lt (α := FF) hone'
    have hd : ∀ i, i < len → ((List.range len).map f).getD i zeroF = f i := fun i hi => by rw [List.getD_eq_getElem?_getD, List.getElem?_map, List.getElem?_range hi]; rfl
    refine ⟨some a, len, cap, (List.range len).map f, hcs, ⟨by simp, fun hpos => ?_, fun i hi => by rw [hd i hi]; exact (hf i hi).2.1⟩, by omega, fun i hi => by rw [hd i hi]; exact (hf i hi).2.2⟩
    obtain ⟨b, off, spot⟩ := a
    have hc0 := (hf 0 hpos).1 0 (by omega)
    have hspot : spot = none := by simpa [Addr.add] using World.cell?_spot hc0
    subst hspot
    refine ⟨b, off, rfl, World.block_lt_of_cell? w ⟨b, off, none⟩ (by have := hc0; rwa [addr_add, show off + (0 * 5 + 0) = off by omega] at this), fun i hi => ?_⟩
    have hg := fun j hj => (hf i hi).1 j hj
    simp only [addr_add] at hg
    have hg' : ∀ j, j < 5 → w.cell? ⟨b, off + i * 5 + j, none⟩ = (cF (f i))[j]? := fun j hj => by rw [show off + i * 5 + j = off + (i * 5 + j) by omega]; exact hg j hj
    rw [hd i hi]
    exact ⟨hg' 0 (by omega), hg' 1 (by omega), hg' 2 (by omega), hg' 3 (by omega), hg' 4 (by omega)⟩
set_option maxRecDepth 100000 in
theorem open_store {H : Type} {enc : TypeId × Value → H} {w : World} {held : Bool} {r : Reach} {b0 : Nat} {v : Value} {d : DataW H} {p : List MemPlace} (hv : Value.okWide Tryd.prog w r b0 30 v) (h : DataW.Trod enc Tryd.prog w 0 (fun _ => true) held 30 v d p) :
    ∃ (h : HD) (D : DD) (ep : Int) (la : Option Addr) (ln lc : Nat) (L : List DR) (su : Int) (fa : Option Addr) (fn fc : Nat) (F : List FF) (ha : Int), v = .agg #[.slice h.a0 h.n0 h.c0, .slice h.a1 h.n1 h.c1, .bool h.b, .slice h.a2 h.n2 h.c2, .int .i64 ep, .slice la ln lc, .int .i64 su, .slice fa fn fc, .int .i64 ha] ∧ RdD w h D ∧ (h.n0 ≤ maxLen ∧ h.n1 ≤ maxLen ∧ h.n2 ≤ maxLen ∧ (∀ s ∈ D.S, s.size ≤ maxLen) ∧ ∀ p ∈ D.C, p.2.size ≤ maxLen) ∧ RdQ w la ln L ∧ ln ≤ maxLen ∧ (∀ v ∈ L, v.b.size ≤ maxLen ∧ v.a.size ≤ maxLen) ∧ RdF w fa fn F ∧ fn ≤ maxLen ∧ ∀ i, i < fn → (F.getD i zeroF).h.n ≤ maxLen ∧ ∀ s ∈ (F.getD i zeroF).D.S, s.size ≤ maxLen := by
  obtain ⟨cs, rfl, hsz⟩ := okWide_struct Tryd.underlying30 hv
  obtain ⟨c0, c1, c2, c3, c4, c5, c6, c7, c8, rfl⟩ := array9 (hsz.trans (by kernel_rfl))
  obtain ⟨fuel, hf⟩ := h
  obtain ⟨xs, n, _, _, _, hlen, hff⟩ := DataW.trod_struct Tryd.underlying30 hf
  have g : ∀ i, i < 6 → ∃ y, xs[i]? = some y := fun i hi => ⟨_, List.getElem?_eq_getElem (by rw [hlen]; exact hi)⟩
  obtain ⟨y0, hy0⟩ := g 0 (by omega)
  obtain ⟨y1, hy1⟩ := g 1 (by omega)
  obtain ⟨y2, hy2⟩ := g 2 (by omega)
  obtain ⟨y3, hy3⟩ := g 3 (by omega)
  obtain ⟨y4, hy4⟩ := g 4 (by omega)
  obtain ⟨y5, hy5⟩ := g 5 (by omega)
  have q0 := (hff 0 _ rfl).trans hy0
  obtain ⟨ep, e1, _, _⟩ := DataW.trod_int Tryd.underlying3 ((hff 1 _ rfl).trans hy1)
  obtain ⟨la, ln, lc, L, e2, r2, m2, s2⟩ := recs_of ((hff 2 _ rfl).trans hy2)
  obtain ⟨su, e3, _, _⟩ := DataW.trod_int Tryd.underlying3 ((hff 3 _ rfl).trans hy3)
  obtain ⟨fa, fn, fc, F, e4, r4, m4, s4⟩ := frames_of ((hff 4 _ rfl).trans hy4)
  obtain ⟨ha, e5, _, _⟩ := DataW.trod_int Tryd.underlying3 ((hff 5 _ rfl).trans hy5)
  simp [Value.cells, cells3i, cellsSR, cellsSF, cellsLD] at e1 e2 e3 e4 e5 q0
  subst e1 e2 e3 e4 e5
  obtain ⟨h, D, rfl, rfl, rfl, rfl, rd, mm⟩ := disk_of q0
  exact ⟨h, D, ep, la, ln, lc, L, su, fa, fn, fc, F, ha, rfl, rd, mm, r2, m2, s2, r4, m4, s4⟩

end Go.Proofs.YtcokbogicbdoaaaDoor
