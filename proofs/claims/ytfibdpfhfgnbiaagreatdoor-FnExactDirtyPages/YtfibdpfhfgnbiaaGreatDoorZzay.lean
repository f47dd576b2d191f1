/-
  How an engine that came in is read.
-/
import Derived.Test.YtfibdpfhfgnbiaaGreatDoorZzal
import Derived.Test.YtfibdpfhfgnbiaaGreatDoorZzak
import Derived.Test.YtfibdpfhfgnbiaaGreatDoorZzac
import Derived.Test.YtfibdpfhfgnbiaaGreatDoorYtcq
import Derived.Test.YtfibdpfhfgnbiaaGreatDoorZzah
import Derived.Test.YtfibdpfhfgnbiaaGreatDoorYwaq
import Derived.Test.YtfibdpfhfgnbiaaGreatDoorZzau
namespace Go.Proofs.YtfibdpfhfgnbiaaGreatDoor
open Go Go.RowKit
attribute [local go_sem ↓] Go.wp_at_zero Go.wp_at_succ

def rdO (no : Int) (s : ByteArray) : Option G.DG := if unsB (numsT s) then G.rpD no (headZ (numsT s)) else none
theorem pg_rd {no : Int} {s : ByteArray} (h : s.toList.isEmpty = false) : pgO no s = rdO no s := by unfold pgO rdO; rw [h]; rfl
set_option maxRecDepth 100000 in
set_option maxHeartbeats 4000000 in
theorem c_l03R (no : Int) (s : ByteArray) (w : World) (hs : s.size ≤ 65536) :
    Calls Tryz.prog 203 #[.int .i64 no, .string s] w fun e w' => (∃ h' : G.HG, e = .returned (.tuple #[.agg #[.int .i64 h'.l, .slice h'.a h'.n h'.c], .bool (rdO no s).isSome]) ∧ ∀ P, rdO no s = some P → h'.l = P.L) ∧ Below w.heap.size w w' := by
  have hl : (numsT s).length = s.size := nums_len s
  cases hu : unsB (numsT s)
  · have E : Hid (rdO no s = none) := by unfold Hid rdO; rw [hu]; rfl
    obtain ⟨V, hV⟩ : ∃ V, w.alloc (.cells #[.int .i64 0, .slice none 0 0] 140) = V := ⟨_, rfl⟩
    have HB : Hid (Below w.heap.size w V) := by unfold Hid; rw [← hV]; exact (Below.refl _ _).alloc (Nat.le_refl _) _
    have BR : Hid (Box V w.heap.size 140 #[.int .i64 0, .slice none 0 0]) := by unfold Hid; rw [← hV]; exact Box.new _ _ _
    obtain ⟨T, US⟩ : ∃ T, Calls Tryz.prog 265 #[.string s] V fun e w' => e = .returned (.tuple #[.string T, .bool false]) ∧ Below V.heap.size V w' := by
      by_cases h4 : s.size < 4
      · refine ⟨⟨#[]⟩, ?_⟩
        have := c_unsealS_lo (numsT s) V (by omega)
        rw [nums_get] at this
        exact this.mono fun e w' ⟨he, q, hq⟩ => ⟨he, by rw [hq]; exact below_drewN (Below.refl _ _) q⟩
      · refine ⟨unsT (numsT s) false, ?_⟩
        have := c_unsealS (numsT s) V (nums_bytes s) (by omega) (by omega)
        rw [nums_get, hu] at this
        exact this
    clear hu hl hs
    go_enter Tryz.func203, Tryz.ntmps203
    go_wp2_with fail
    refine US.mono ?_
    rintro e' w1 ⟨rfl, hb⟩
    have B1 : Hid (Below w.heap.size w w1) := HB.out.trans (hb.mono HB.out.size)
    have BR1 : Hid (Box w1 w.heap.size 140 #[.int .i64 0, .slice none 0 0]) := BR.out.belowS hb
    clear hb hV HB BR US
    obtain ⟨u0, u1⟩ := G.box2 BR1.out
    have t0 := BR1.out.thaw 0
    have t1 := BR1.out.thaw 1
    go_wp2
    refine G.retG2 Tryz.results203 rfl rfl rfl (G.put2_box BR1.out _ _) ⟨?_, G.put2_below B1.out (Nat.le_refl _) _ _⟩
    rw [E.out]
    exact ⟨⟨0, none, 0, 0⟩, rfl, fun _ h => by cases h⟩
  · have h4 : 4 ≤ s.size := by
      rcases Nat.lt_or_ge s.size 4 with h | h
      · rw [uns_lo (by rw [nums_len]; exact h)] at hu; cases hu
      · exact h
    have E : rdO no s = G.rpD no (headZ (numsT s)) := by unfold rdO; rw [hu]; rfl
    have := G.c_read no (numsT s) w (nums_bytes s) (by omega) (by omega) hu
    rw [nums_get] at this
    rw [E]
    exact this.mono fun e w' ⟨⟨h', he, D', o, hD⟩, hb⟩ => ⟨⟨h', he, fun P hP => by rw [o.1, hD P hP]⟩, hb⟩
set_option maxRecDepth 100000 in
set_option maxHeartbeats 4000000 in
theorem c_l05Page (h : HD) (D : DD) (p : Nat) (w : World) (r : RdD w h D) (hok : okD D = true) (hp : 1 + p < h.n0) :
    Calls Tryz.prog 119 #[.agg #[.slice h.a0 h.n0 h.c0, .slice h.a1 h.n1 h.c1, .bool h.b, .slice h.a2 h.n2 h.c2], .int .i64 (p : Int)] w fun e w' => (∃ h' : G.HG, e = .returned (.tuple #[.agg #[.int .i64 h'.l, .slice h'.a h'.n h'.c], .bool (pgO p (rdS D.S D.C (1 + p))).isSome]) ∧ ∀ P, pgO p (rdS D.S D.C (1 + p)) = some P → h'.l = P.L) ∧ Below w.heap.size w w' := by
  have hn0 : h.n0 ≤ 100 := by have := (ok_parts hok).1.1; have := r.l0; omega
  have hn1 : h.n1 ≤ 500 := by have := (ok_parts hok).1.2; have := r.l1; omega
  obtain ⟨V, hV⟩ : ∃ V, (w.alloc (.cells #[.slice h.a0 h.n0 h.c0, .slice h.a1 h.n1 h.c1, .bool h.b, .slice h.a2 h.n2 h.c2] 42)).alloc (.cells #[.int .i64 0, .slice none 0 0] 140) = V := ⟨_, rfl⟩
  have HB : Hid (Below w.heap.size w V) := by unfold Hid; rw [← hV]; exact ((Below.refl _ _).alloc (Nat.le_refl _) _).alloc (by simp) _
  have X : Hid (Box V w.heap.size 42 #[.slice h.a0 h.n0 h.c0, .slice h.a1 h.n1 h.c1, .bool h.b, .slice h.a2 h.n2 h.c2]) := by unfold Hid; rw [← hV]; exact (Box.new _ _ _).alloc _
  have Y : Hid (Box V (w.heap.size + 1) 140 #[.int .i64 0, .slice none 0 0]) := by
    unfold Hid; rw [← hV]
    have := Box.new (w.alloc (.cells #[.slice h.a0 h.n0 h.c0, .slice h.a1 h.n1 h.c1, .bool h.b, .slice h.a2 h.n2 h.c2] 42)) #[.int .i64 0, .slice none 0 0] 140
    rwa [World.size_alloc] at this
  obtain ⟨s, hs⟩ : ∃ s, s = rdS D.S D.C (1 + p) := ⟨_, rfl⟩
  have hsz : s.size ≤ 160 := by rw [hs]; exact rdS_size (ok_parts hok).2.1 (ok_parts hok).2.2
  have RS := c_l02Read h.a0 h.n0 h.c0 h.a1 h.n1 h.c1 h.b h.a2 h.n2 h.c2 D.S D.C (1 + p) V (r.2.1.below HB.out) (r.2.2.1.below HB.out) hp (by omega) (by omega)
  rw [← hs] at RS ⊢
  have RSx : Hid (∀ x : Int, x = 1 + (p : Int) → Calls Tryz.prog 201 #[.agg #[.slice h.a0 h.n0 h.c0, .slice h.a1 h.n1 h.c1, .bool h.b, .slice h.a2 h.n2 h.c2], .int .i64 x] V fun e W' => e = .returned (.string s) ∧ Below V.heap.size V W') := fun x hx => by
    rw [hx, show (1 + (p : Int)) = ((1 + p : Nat) : Int) by omega]; exact RS
  clear RS hs r hok
  obtain ⟨x0, x1, x2, x3⟩ := box4 X.out
  go_enter Tryz.func119, Tryz.ntmps119
  go_wp2_with fail
  refine (RSx.out _ (by omega)).mono ?_
  rintro e w1 ⟨rfl, hb1⟩
  have B1 : Hid (Below w.heap.size w w1) := HB.out.trans (hb1.mono HB.out.size)
  have Y1 : Hid (Box w1 (w.heap.size + 1) 140 #[.int .i64 0, .slice none 0 0]) := Y.out.belowS hb1
  clear hb1 HB X Y hV RSx x0 x1 x2 x3
  cases he : s.toList.isEmpty
  · have HP : Hid (pgO p s = rdO p s) := pg_rd he
    have hne : (s.toList == []) = false := by cases hh : s.toList with | nil => rw [hh] at he; cases he | cons _ _ => rfl
    go_wp2_with fail
    refine (c_l03R p s w1 (by omega)).mono ?_
    rintro e w2 ⟨⟨h2, rfl, hP2⟩, hb2⟩
    have HP2 : Hid (∀ P, rdO p s = some P → h2.l = P.L) := hP2
    have B2 : Hid (Below w.heap.size w w2) := B1.out.trans (hb2.mono B1.out.size)
    have Y2 : Hid (Box w2 (w.heap.size + 1) 140 #[.int .i64 0, .slice none 0 0]) := Y1.out.belowS hb2
    clear hb2 hP2 B1 Y1
    obtain ⟨u0, u1⟩ := G.box2 Y2.out
    have t0 := Y2.out.thaw 0
    have t1 := Y2.out.thaw 1
    go_wp2
    refine G.retG2 Tryz.results119 rfl rfl rfl (G.put2_box Y2.out _ _) ⟨⟨h2, by rw [HP.out]; rfl, fun P hP => HP2.out P (by rw [← HP.out]; exact hP)⟩, G.put2_below B2.out (by omega) _ _⟩
  · have HP : Hid (pgO p s = some G.newG) := pg_new he
    have hse : s.toList = [] := List.isEmpty_iff.1 he
    clear he
    go_wp2_with fail
    refine (G.c_specNew w1).mono ?_
    rintro e w2 ⟨⟨h2, rfl, o2⟩, hb2⟩
    have HL2 : Hid (h2.l = G.newG.L) := o2.1
    have B2 : Hid (Below w.heap.size w w2) := B1.out.trans (hb2.mono B1.out.size)
    have Y2 : Hid (Box w2 (w.heap.size + 1) 140 #[.int .i64 0, .slice none 0 0]) := Y1.out.belowS hb2
    clear hb2 o2 B1 Y1
    obtain ⟨u0, u1⟩ := G.box2 Y2.out
    have t0 := Y2.out.thaw 0
    have t1 := Y2.out.thaw 1
    go_wp2
    refine G.retG2 Tryz.results119 rfl rfl rfl (G.put2_box Y2.out _ _) ⟨⟨h2, by rw [HP.out]; rfl, fun P hP => by rw [HP.out] at hP; cases hP; exact HL2.out⟩, G.put2_below B2.out (by omega) _ _⟩

end Go.Proofs.YtfibdpfhfgnbiaaGreatDoor
namespace Go.Proofs.YtfibdpfhfgnbiaaGreatDoor
open Go Go.RowKit Go.ChangeShapes Go.WideShapes Go.Deep Go.WideElems

theorem array9 {α : Type} {cs : Array α} (h : cs.size = 9) : ∃ c0 c1 c2 c3 c4 c5 c6 c7 c8, cs = #[c0, c1, c2, c3, c4, c5, c6, c7, c8] := by
  obtain ⟨l⟩ := cs
  match l, h with
  | [c0, c1, c2, c3, c4, c5, c6, c7, c8], _ => exact ⟨c0, c1, c2, c3, c4, c5, c6, c7, c8, rfl⟩
theorem cells3i : Tryz.prog.cellsOf 3 = 1 := by kernel_rfl
theorem cells4i : Tryz.prog.cellsOf 4 = 1 := by kernel_rfl
theorem cells9i : Tryz.prog.cellsOf 9 = 1 := by kernel_rfl
theorem cellsSS : Tryz.prog.cellsOf 22 = 1 := by kernel_rfl
theorem cellsSI : Tryz.prog.cellsOf 24 = 1 := by kernel_rfl
theorem cellsSP : Tryz.prog.cellsOf 23 = 1 := by kernel_rfl
theorem cellsSR : Tryz.prog.cellsOf 27 = 1 := by kernel_rfl
theorem cellsSF : Tryz.prog.cellsOf 28 = 1 := by kernel_rfl
theorem cellsPG : Tryz.prog.cellsOf 217 = 2 := by kernel_rfl
theorem cellsLD : Tryz.prog.cellsOf 26 = 4 := by kernel_rfl
theorem cellsLR : Tryz.prog.cellsOf 72 = 10 := by kernel_rfl
theorem cellsLF : Tryz.prog.cellsOf 219 = 5 := by kernel_rfl
set_option maxRecDepth 100000 in
theorem texts_of {H : Type} {enc : TypeId × Value → H} {w : World} {held : Bool} {fuel : Nat} {cs : List Value} {x : DataW H × List MemPlace} (h : DataW.trod enc Tryz.prog w 0 (fun _ => true) held fuel 22 cs = some x) :
    ∃ a n c, ∃ ss : List ByteArray, cs = [.slice a n c] ∧ RdV w a n (ss.map Value.string) ∧ n ≤ maxLen ∧ ∀ s ∈ ss, s.size ≤ maxLen := by
  rcases open_strings Tryz.underlying22 Tryz.underlying9 (by kernel_rfl) h with ⟨hcs, _⟩ | ⟨x, l, c, ss, hcs, _, hl, hm, hz, _, hcell, hwz⟩
  · exact ⟨none, 0, 0, [], hcs, ⟨rfl, fun h => absurd h (by omega)⟩, by unfold maxLen; omega, fun _ h => by cases h⟩
  · exact ⟨some x, l, c, _, hcs, rdV_of_row Value.string _ hl (by simpa using hz) hcell, by omega, fun s h => hwz s (List.mem_of_mem_take h)⟩
set_option maxRecDepth 100000 in
theorem numbers_of {H : Type} {enc : TypeId × Value → H} {w : World} {held : Bool} {fuel : Nat} {cs : List Value} {x : DataW H × List MemPlace} (h : DataW.trod enc Tryz.prog w 0 (fun _ => true) held fuel 24 cs = some x) :
    ∃ a n c, ∃ zs : List Int, cs = [.slice a n c] ∧ RdV w a n (zs.map (Value.int .i64)) ∧ n ≤ maxLen := by
  rcases open_ints Tryz.underlying24 Tryz.underlying3 (by kernel_rfl) h with ⟨hcs, _⟩ | ⟨x, l, c, zs, hcs, _, hl, hm, hz, _, hcell, hwz⟩
  · exact ⟨none, 0, 0, [], hcs, ⟨rfl, fun h => absurd h (by omega)⟩, by unfold maxLen; omega⟩
  · exact ⟨some x, l, c, _, hcs, rdV_of_row (Value.int .i64) _ hl (by simpa using hz) hcell, by omega⟩
set_option maxRecDepth 100000 in
theorem pendings_of {H : Type} {enc : TypeId × Value → H} {w : World} {held : Bool} {fuel : Nat} {cs : List Value} {x : DataW H × List MemPlace} (h : DataW.trod enc Tryz.prog w 0 (fun _ => true) held fuel 23 cs = some x) :
    ∃ a n c, ∃ vs : List PP, cs = [.slice a n c] ∧ RdP w a n vs ∧ n ≤ maxLen ∧ ∀ p ∈ vs, p.2.size ≤ maxLen := by
  rcases open_pendings Tryz.underlying23 Tryz.underlying289 (by kernel_rfl) (by kernel_rfl) Tryz.underlying3 Tryz.underlying9 h with hcs | ⟨x, l, c, vs, hcs, hm, hr, hz⟩
  · exact ⟨none, 0, 0, [], hcs, ⟨rfl, fun h => absurd h (by omega)⟩, by unfold maxLen; omega, fun _ h => by cases h⟩
  · exact ⟨some x, l, c, vs, hcs, hr, hm, hz⟩
set_option maxRecDepth 100000 in
theorem disk_of {H : Type} {enc : TypeId × Value → H} {w : World} {held : Bool} {fuel : Nat} {c0 c1 c2 c3 : Value} {x : DataW H × List MemPlace} (h : DataW.trod enc Tryz.prog w 0 (fun _ => true) held fuel 26 [c0, c1, c2, c3] = some x) :
    ∃ (h : HD) (D : DD), c0 = .slice h.a0 h.n0 h.c0 ∧ c1 = .slice h.a1 h.n1 h.c1 ∧ c2 = .bool h.b ∧ c3 = .slice h.a2 h.n2 h.c2 ∧ RdD w h D ∧ h.n0 ≤ maxLen ∧ h.n1 ≤ maxLen ∧ h.n2 ≤ maxLen ∧ (∀ s ∈ D.S, s.size ≤ maxLen) ∧ ∀ p ∈ D.C, p.2.size ≤ maxLen := by
  obtain ⟨xs, n, _, _, _, hlen, hff⟩ := DataW.trod_struct Tryz.underlying26 h
  have g : ∀ i, i < 4 → ∃ y, xs[i]? = some y := fun i hi => ⟨_, List.getElem?_eq_getElem (by rw [hlen]; exact hi)⟩
  obtain ⟨y0, hy0⟩ := g 0 (by omega)
  obtain ⟨y1, hy1⟩ := g 1 (by omega)
  obtain ⟨y2, hy2⟩ := g 2 (by omega)
  obtain ⟨y3, hy3⟩ := g 3 (by omega)
  obtain ⟨a0, n0, k0, ss, e0, r0, m0, s0⟩ := texts_of ((hff 0 _ rfl).trans hy0)
  obtain ⟨a1, n1, k1, vs, e1, r1, m1, s1⟩ := pendings_of ((hff 1 _ rfl).trans hy1)
  obtain ⟨b, e2, _⟩ := DataW.trod_bool Tryz.underlying4 ((hff 2 _ rfl).trans hy2)
  obtain ⟨a2, n2, k2, zs, e3, r2, m2⟩ := numbers_of ((hff 3 _ rfl).trans hy3)
  simp [cells4i, cellsSS, cellsSI, cellsSP] at e0 e1 e2 e3
  exact ⟨⟨a0, n0, k0, a1, n1, k1, b, a2, n2, k2⟩, ⟨ss, vs, b, zs⟩, e0, e1, e2, e3, ⟨rfl, r0, r1, r2⟩, m0, m1, m2, s0, s1⟩
set_option maxRecDepth 100000 in
theorem recs_of {H : Type} {enc : TypeId × Value → H} {w : World} {held : Bool} {fuel : Nat} {cs : List Value} {x : DataW H × List MemPlace} (h : DataW.trod enc Tryz.prog w 0 (fun _ => true) held fuel 27 cs = some x) :
    ∃ a n c, ∃ vs : List DR, cs = [.slice a n c] ∧ RdQ w a n vs ∧ n ≤ maxLen ∧ ∀ v ∈ vs, v.b.size ≤ maxLen ∧ v.a.size ≤ maxLen := by
  rcases Go.Deep.open_slice Tryz.underlying27 h with ⟨h0, _⟩ | ⟨a, len, cap, m, n, D, Pl, hcs, hb, hl, hm, he, hx, hc⟩
  · exact ⟨none, 0, 0, [], h0, ⟨rfl, fun h => absurd h (by omega)⟩, by unfold maxLen; omega, fun _ h => by cases h⟩
  · have hlm : len ≤ m := by rw [he]; split <;> omega
    have hone' : ∀ i, i < len → ∃ v : DR, (∀ j, j < 10 → w.cell? (a.add (i * 10 + j)) = (cQ v)[j]?) ∧ v.b.size ≤ maxLen ∧ v.a.size ≤ maxLen := by
      intro i hi
      obtain ⟨cs', h1, h2⟩ := hc i (by omega)
      rw [cellsLR] at h1
      obtain ⟨_, hl3, hg⟩ := World.cells?_some h1
      obtain ⟨xs, n', _, _, _, hlen, hff⟩ := DataW.trod_struct Tryz.underlying72 h2
      have g : ∀ i, i < 10 → ∃ y, xs[i]? = some y := fun i hi => ⟨_, List.getElem?_eq_getElem (by rw [hlen]; exact hi)⟩
      match cs', hl3 with
      | [c0, c1, c2, c3, c4, c5, c6, c7, c8, c9], _ =>
        obtain ⟨y0, hy0⟩ := g 0 (by omega)
        obtain ⟨y1, hy1⟩ := g 1 (by omega)
        obtain ⟨y2, hy2⟩ := g 2 (by omega)
        obtain ⟨y3, hy3⟩ := g 3 (by omega)
        obtain ⟨y4, hy4⟩ := g 4 (by omega)
        obtain ⟨y5, hy5⟩ := g 5 (by omega)
        obtain ⟨y6, hy6⟩ := g 6 (by omega)
        obtain ⟨y7, hy7⟩ := g 7 (by omega)
        obtain ⟨y8, hy8⟩ := g 8 (by omega)
        obtain ⟨y9, hy9⟩ := g 9 (by omega)
        obtain ⟨k0, e0, _, _⟩ := DataW.trod_int Tryz.underlying3 ((hff 0 _ rfl).trans hy0)
        obtain ⟨k1, e1, _, _⟩ := DataW.trod_int Tryz.underlying3 ((hff 1 _ rfl).trans hy1)
        obtain ⟨k2, e2, _, _⟩ := DataW.trod_int Tryz.underlying3 ((hff 2 _ rfl).trans hy2)
        obtain ⟨k3, e3, _, _⟩ := DataW.trod_int Tryz.underlying3 ((hff 3 _ rfl).trans hy3)
        obtain ⟨k4, e4, _, _⟩ := DataW.trod_int Tryz.underlying3 ((hff 4 _ rfl).trans hy4)
        obtain ⟨k5, e5, _, _⟩ := DataW.trod_int Tryz.underlying3 ((hff 5 _ rfl).trans hy5)
        obtain ⟨k6, e6, _, _⟩ := DataW.trod_int Tryz.underlying3 ((hff 6 _ rfl).trans hy6)
        obtain ⟨k7, e7, _, _⟩ := DataW.trod_int Tryz.underlying3 ((hff 7 _ rfl).trans hy7)
        obtain ⟨k8, e8, _, m8⟩ := DataW.trod_string Tryz.underlying9 ((hff 8 _ rfl).trans hy8)
        obtain ⟨k9, e9, _, m9⟩ := DataW.trod_string Tryz.underlying9 ((hff 9 _ rfl).trans hy9)
        simp [cells3i, cells9i] at e0 e1 e2 e3 e4 e5 e6 e7 e8 e9
        subst e0 e1 e2 e3 e4 e5 e6 e7 e8 e9
        have q0 := hg 0 (by omega)
        have q1 := hg 1 (by omega)
        have q2 := hg 2 (by omega)
        have q3 := hg 3 (by omega)
        have q4 := hg 4 (by omega)
        have q5 := hg 5 (by omega)
        have q6 := hg 6 (by omega)
        have q7 := hg 7 (by omega)
        have q8 := hg 8 (by omega)
        have q9 := hg 9 (by omega)
        rw [Go.Deep.add_add] at q0 q1 q2 q3 q4 q5 q6 q7 q8 q9
        refine ⟨⟨k0, k1, k2, k3, k4, k5, k6, k7, k8, k9⟩, fun j hj => ?_, m8, m9⟩
        match j, hj with
        | 0, _ => exact q0
        | 1, _ => exact q1
        | 2, _ => exact q2
        | 3, _ => exact q3
        | 4, _ => exact q4
        | 5, _ => exact q5
        | 6, _ => exact q6
        | 7, _ => exact q7
        | 8, _ => exact q8
        | 9, _ => exact q9
    haveI : Inhabited DR := ⟨zeroR⟩
    obtain ⟨f, hf⟩ := Go.Deep.choose_lt (α := DR) hone'
    refine ⟨some a, len, cap, (List.range len).map f, hcs, ⟨by simp, fun hpos => ?_⟩, by omega, ?_⟩
    · obtain ⟨b, off, spot⟩ := a
      have hc0 := (hf 0 hpos).1 0 (by omega)
      have hspot : spot = none := by simpa [Addr.add] using World.cell?_spot hc0
      subst hspot
      refine ⟨b, off, rfl, World.block_lt_of_cell? w ⟨b, off, none⟩ (by have := hc0; rwa [addr_add, show off + (0 * 10 + 0) = off by omega] at this), fun i hi j hj => ?_⟩
      have hg := (hf i hi).1 j hj
      rw [addr_add, show off + (i * 10 + j) = off + i * 10 + j by omega] at hg
      have hd : ((List.range len).map f).getD i zeroR = f i := by rw [List.getD_eq_getElem?_getD, List.getElem?_map, List.getElem?_range hi]; rfl
      rw [hd]
      exact hg
    · intro v hv
      obtain ⟨i, hi, rfl⟩ := List.mem_map.1 hv
      exact (hf i (List.mem_range.1 hi)).2
set_option maxRecDepth 100000 in
theorem page_of {H : Type} {enc : TypeId × Value → H} {w : World} {held : Bool} {fuel : Nat} {cs : List Value} {x : DataW H × List MemPlace} (h : DataW.trod enc Tryz.prog w 0 (fun _ => true) held fuel 217 cs = some x) (hl : cs.length = 2) :
    ∃ (p : G.HG) (D : G.DG), cs = [.int .i64 p.l, .slice p.a p.n p.c] ∧ G.RdG w p D ∧ p.n ≤ maxLen ∧ ∀ s ∈ D.S, s.size ≤ maxLen := by
  obtain ⟨xs, n, _, _, _, hlen, hff⟩ := DataW.trod_struct Tryz.underlying217 h
  have g : ∀ i, i < 2 → ∃ y, xs[i]? = some y := fun i hi => ⟨_, List.getElem?_eq_getElem (by rw [hlen]; exact hi)⟩
  match cs, hl with
  | [c0, c1], _ =>
    obtain ⟨y0, hy0⟩ := g 0 (by omega)
    obtain ⟨y1, hy1⟩ := g 1 (by omega)
    obtain ⟨k0, e0, _, _⟩ := DataW.trod_int Tryz.underlying3 ((hff 0 _ rfl).trans hy0)
    obtain ⟨a1, n1, k1, ss, e1, r1, m1, s1⟩ := texts_of ((hff 1 _ rfl).trans hy1)
    simp [cells3i, cellsSS] at e0 e1
    subst e0 e1
    exact ⟨⟨k0, a1, n1, k1⟩, ⟨k0, ss⟩, rfl, ⟨rfl, r1⟩, m1, s1⟩
set_option maxRecDepth 100000 in
theorem frames_of {H : Type} {enc : TypeId × Value → H} {w : World} {held : Bool} {fuel : Nat} {cs : List Value} {x : DataW H × List MemPlace} (h : DataW.trod enc Tryz.prog w 0 (fun _ => true) held fuel 28 cs = some x) :
    ∃ a n c, ∃ fs : List FF, cs = [.slice a n c] ∧ RdF w a n fs ∧ n ≤ maxLen ∧ ∀ i, i < n → (fs.getD i zeroF).h.n ≤ maxLen ∧ ∀ s ∈ (fs.getD i zeroF).D.S, s.size ≤ maxLen := by
  rcases Go.Deep.open_slice Tryz.underlying28 h with ⟨h0, _⟩ | ⟨a, len, cap, m, n, D, Pl, hcs, hb, hl, hm, he, hx, hc⟩
  · exact ⟨none, 0, 0, [], h0, ⟨rfl, fun h => absurd h (by omega), fun i h => absurd h (by omega)⟩, by unfold maxLen; omega, fun i h => absurd h (by omega)⟩
  · have hlm : len ≤ m := by rw [he]; split <;> omega
    have hone' : ∀ i, i < len → ∃ v : FF, (∀ j, j < 5 → w.cell? (a.add (i * 5 + j)) = (cF v)[j]?) ∧ G.RdG w v.h v.D ∧ v.h.n ≤ maxLen ∧ ∀ s ∈ v.D.S, s.size ≤ maxLen := by
      intro i hi
      obtain ⟨cs', h1, h2⟩ := hc i (by omega)
      rw [cellsLF] at h1
      obtain ⟨_, hl3, hg⟩ := World.cells?_some h1
      obtain ⟨xs, n', _, _, _, hlen, hff⟩ := DataW.trod_struct Tryz.underlying219 h2
      have g : ∀ i, i < 4 → ∃ y, xs[i]? = some y := fun i hi => ⟨_, List.getElem?_eq_getElem (by rw [hlen]; exact hi)⟩
      match cs', hl3 with
      | [c0, c1, c2, c3, c4], _ =>
        obtain ⟨y0, hy0⟩ := g 0 (by omega)
        obtain ⟨y1, hy1⟩ := g 1 (by omega)
        obtain ⟨y2, hy2⟩ := g 2 (by omega)
        obtain ⟨y3, hy3⟩ := g 3 (by omega)
        obtain ⟨k0, e0, _, _⟩ := DataW.trod_int Tryz.underlying3 ((hff 0 _ rfl).trans hy0)
        obtain ⟨pg, DG, e1, rg, mg, sg⟩ := page_of ((hff 1 _ rfl).trans hy1) (by simp [cellsPG])
        obtain ⟨b, e2, _⟩ := DataW.trod_bool Tryz.underlying4 ((hff 2 _ rfl).trans hy2)
        obtain ⟨k3, e3, _, _⟩ := DataW.trod_int Tryz.underlying3 ((hff 3 _ rfl).trans hy3)
        simp [cells3i, cells4i, cellsPG] at e0 e1 e2 e3
        obtain ⟨e1a, e1b⟩ := e1
        subst e0 e1a e1b e2 e3
        have q0 := hg 0 (by omega)
        have q1 := hg 1 (by omega)
        have q2 := hg 2 (by omega)
        have q3 := hg 3 (by omega)
        have q4 := hg 4 (by omega)
        rw [Go.Deep.add_add] at q0 q1 q2 q3 q4
        refine ⟨⟨k0, pg, DG, b, k3⟩, fun j hj => ?_, rg, mg, sg⟩
        match j, hj with
        | 0, _ => exact q0
        | 1, _ => exact q1
        | 2, _ => exact q2
        | 3, _ => exact q3
        | 4, _ => exact q4
    haveI : Inhabited FF := ⟨zeroF⟩
    obtain ⟨f, hf⟩ := Go.Deep.choose_lt (α := FF) hone'
    have hd : ∀ i, i < len → ((List.range len).map f).getD i zeroF = f i := fun i hi => by rw [List.getD_eq_getElem?_getD, List.getElem?_map, List.getElem?_range hi]; rfl
    refine ⟨some a, len, cap, (List.range len).map f, hcs, ⟨by simp, fun hpos => ?_, fun i hi => by rw [hd i hi]; exact (hf i hi).2.1⟩, by omega, fun i hi => by rw [hd i hi]; exact (hf i hi).2.2⟩
    obtain ⟨b, off, spot⟩ := a
    have hc0 := (hf 0 hpos).1 0 (by omega)
    have hspot : spot = none := by simpa [Addr.add] using World.cell?_spot hc0
    subst hspot
    refine ⟨b, off, rfl, World.block_lt_of_cell? w ⟨b, off, none⟩ (by have := hc0; rwa [addr_add, show off + (0 * 5 + 0) = off by omega] at this), fun i hi => ?_⟩
    have hg := fun j hj => (hf i hi).1 j hj
    simp only [addr_add] at hg
    have hg' : ∀ j, j < 5 → w.cell? ⟨b, off + i * 5 + j, none⟩ = (cF (f i))[j]? := fun j hj => by rw [show off + i * 5 + j = off + (i * 5 + j) by omega]; exact hg j hj
    rw [hd i hi]
    exact ⟨hg' 0 (by omega), hg' 1 (by omega), hg' 2 (by omega), hg' 3 (by omega), hg' 4 (by omega)⟩
set_option maxRecDepth 100000 in
theorem open_store {H : Type} {enc : TypeId × Value → H} {w : World} {held : Bool} {r : Reach} {b0 : Nat} {v : Value} {d : DataW H} {p : List MemPlace} (hv : Value.okWide Tryz.prog w r b0 30 v) (h : DataW.Trod enc Tryz.prog w 0 (fun _ => true) held 30 v d p) :
    ∃ (h : HD) (D : DD) (ep : Int) (la : Option Addr) (ln lc : Nat) (L : List DR) (su : Int) (fa : Option Addr) (fn fc : Nat) (F : List FF) (ha : Int), v = .agg #[.slice h.a0 h.n0 h.c0, .slice h.a1 h.n1 h.c1, .bool h.b, .slice h.a2 h.n2 h.c2, .int .i64 ep, .slice la ln lc, .int .i64 su, .slice fa fn fc, .int .i64 ha] ∧ RdD w h D ∧ (h.n0 ≤ maxLen ∧ h.n1 ≤ maxLen ∧ h.n2 ≤ maxLen ∧ (∀ s ∈ D.S, s.size ≤ maxLen) ∧ ∀ p ∈ D.C, p.2.size ≤ maxLen) ∧ RdQ w la ln L ∧ ln ≤ maxLen ∧ (∀ v ∈ L, v.b.size ≤ maxLen ∧ v.a.size ≤ maxLen) ∧ RdF w fa fn F ∧ fn ≤ maxLen ∧ ∀ i, i < fn → (F.getD i zeroF).h.n ≤ maxLen ∧ ∀ s ∈ (F.getD i zeroF).D.S, s.size ≤ maxLen := by
  obtain ⟨cs, rfl, hsz⟩ := okWide_struct Tryz.underlying30 hv
  obtain ⟨c0, c1, c2, c3, c4, c5, c6, c7, c8, rfl⟩ := array9 (hsz.trans (by kernel_rfl))
  obtain ⟨fuel, hf⟩ := h
  obtain ⟨xs, n, _, _, _, hlen, hff⟩ := DataW.trod_struct Tryz.underlying30 hf
  have g : ∀ i, i < 6 → ∃ y, xs[i]? = some y := fun i hi => ⟨_, List.getElem?_eq_getElem (by rw [hlen]; exact hi)⟩
  obtain ⟨y0, hy0⟩ := g 0 (by omega)
  obtain ⟨y1, hy1⟩ := g 1 (by omega)
  obtain ⟨y2, hy2⟩ := g 2 (by omega)
  obtain ⟨y3, hy3⟩ := g 3 (by omega)
  obtain ⟨y4, hy4⟩ := g 4 (by omega)
  obtain ⟨y5, hy5⟩ := g 5 (by omega)
  have q0 := (hff 0 _ rfl).trans hy0
  obtain ⟨ep, e1, _, _⟩ := DataW.trod_int Tryz.underlying3 ((hff 1 _ rfl).trans hy1)
  obtain ⟨la, ln, lc, L, e2, r2, m2, s2⟩ := recs_of ((hff 2 _ rfl).trans hy2)
  obtain ⟨su, e3, _, _⟩ := DataW.trod_int Tryz.underlying3 ((hff 3 _ rfl).trans hy3)
  obtain ⟨fa, fn, fc, F, e4, r4, m4, s4⟩ := frames_of ((hff 4 _ rfl).trans hy4)
  obtain ⟨ha, e5, _, _⟩ := DataW.trod_int Tryz.underlying3 ((hff 5 _ rfl).trans hy5)
  simp [Value.cells, cells3i, cellsSR, cellsSF, cellsLD] at e1 e2 e3 e4 e5 q0
  subst e1 e2 e3 e4 e5
  obtain ⟨h, D, rfl, rfl, rfl, rfl, rd, mm⟩ := disk_of q0
  exact ⟨h, D, ep, la, ln, lc, L, su, fa, fn, fc, F, ha, rfl, rd, mm, r2, m2, s2, r4, m4, s4⟩

end Go.Proofs.YtfibdpfhfgnbiaaGreatDoor
namespace Go.Proofs.YtfibdpfhfgnbiaaGreatDoor
open Go Go.RowKit Go.ChangeShapes Go.WideShapes Go.Deep Go.WideElems

theorem array14 {α : Type} {cs : Array α} (h : cs.size = 14) : ∃ c0 c1 c2 c3 c4 c5 c6 c7 c8 c9 c10 c11 c12 c13, cs = #[c0, c1, c2, c3, c4, c5, c6, c7, c8, c9, c10, c11, c12, c13] := by
  obtain ⟨l⟩ := cs
  match l, h with
  | [c0, c1, c2, c3, c4, c5, c6, c7, c8, c9, c10, c11, c12, c13], _ => exact ⟨c0, c1, c2, c3, c4, c5, c6, c7, c8, c9, c10, c11, c12, c13, rfl⟩
theorem cellsLST : Tryz.prog.cellsOf 30 = 9 := by kernel_rfl
theorem cellsLLK : Tryz.prog.cellsOf 35 = 2 := by kernel_rfl
theorem cellsSLT : Tryz.prog.cellsOf 31 = 1 := by kernel_rfl
theorem cellsSLK : Tryz.prog.cellsOf 32 = 1 := by kernel_rfl
theorem cellsSLW : Tryz.prog.cellsOf 33 = 1 := by kernel_rfl
theorem rdX_of {w : World} {a : Option Addr} {n : Nat} {vs : List L.WK} (h : L.RdW w a n vs) : X.RdW w a n (vs.map fun v => (⟨v.x, v.f⟩ : X.WK)) := by
  obtain ⟨h1, h2⟩ := h
  refine ⟨by simpa using h1, fun hn => ?_⟩
  obtain ⟨b, off, e, hlt, hc⟩ := h2 hn
  refine ⟨b, off, e, hlt, fun i hi => ?_⟩
  have hd : (vs.map fun v => (⟨v.x, v.f⟩ : X.WK)).getD i X.dW = ⟨(vs.getD i L.dW).x, (vs.getD i L.dW).f⟩ := by
    rw [List.getD_eq_getElem?_getD, List.getD_eq_getElem?_getD, List.getElem?_map, List.getElem?_eq_getElem (by omega)]
    rfl
  rw [hd]
  exact hc i hi
set_option maxRecDepth 100000 in
theorem txs_of {H : Type} {enc : TypeId × Value → H} {w : World} {held : Bool} {fuel : Nat} {cs : List Value} {x : DataW H × List MemPlace} (h : DataW.trod enc Tryz.prog w 0 (fun _ => true) held fuel 31 cs = some x) :
    ∃ a c, ∃ ts : List X.WK, cs = [.slice a ts.length c] ∧ X.RdW w a ts.length ts ∧ ts.length ≤ maxLen := by
  rcases L.open_W Tryz.underlying31 Tryz.underlying158 (by kernel_rfl) (by kernel_rfl) Tryz.underlying3 Tryz.underlying3 h with hcs | ⟨x, l, c, ws, hcs, hm, hr⟩
  · exact ⟨none, 0, [], hcs, ⟨rfl, fun h => absurd h (by simp)⟩, by unfold maxLen; simp⟩
  · have hx := rdX_of hr
    have hl := hx.1
    exact ⟨some x, c, _, by rw [hl]; exact hcs, by rw [hl]; exact hx, by omega⟩
set_option maxRecDepth 100000 in
theorem locks_of {H : Type} {enc : TypeId × Value → H} {w : World} {held : Bool} {fuel : Nat} {c0 c1 : Value} {x : DataW H × List MemPlace} (h : DataW.trod enc Tryz.prog w 0 (fun _ => true) held fuel 35 [c0, c1] = some x) :
    ∃ (h : L.HL) (vs : List L.LK) (ws : List L.WK), c0 = .slice h.a0 vs.length h.c0 ∧ c1 = .slice h.a1 ws.length h.c1 ∧ L.RdL w h vs ws ∧ vs.length ≤ maxLen ∧ ws.length ≤ maxLen := by
  obtain ⟨xs, n, _, _, _, hlen, hff⟩ := DataW.trod_struct Tryz.underlying35 h
  have g : ∀ i, i < 2 → ∃ y, xs[i]? = some y := fun i hi => ⟨_, List.getElem?_eq_getElem (by rw [hlen]; exact hi)⟩
  obtain ⟨y0, hy0⟩ := g 0 (by omega)
  obtain ⟨y1, hy1⟩ := g 1 (by omega)
  obtain ⟨a0, n0, k0, vs, e0, r0, m0⟩ : ∃ a n c, ∃ vs : List L.LK, c0 = .slice a n c ∧ L.RdK w a n vs ∧ n ≤ maxLen := by
    rcases L.open_K Tryz.underlying32 Tryz.underlying245 (by kernel_rfl) (by kernel_rfl) Tryz.underlying3 Tryz.underlying3 Tryz.underlying3 Tryz.underlying3 ((hff 0 _ rfl).trans hy0) with hcs | ⟨x, l, c, vs, hcs, hm, hr⟩
    · simp [cellsSLK] at hcs
      exact ⟨none, 0, 0, [], hcs, ⟨rfl, fun h => absurd h (by omega)⟩, by unfold maxLen; omega⟩
    · simp [cellsSLK] at hcs
      exact ⟨some x, l, c, vs, hcs, hr, hm⟩
  obtain ⟨a1, n1, k1, ws, e1, r1, m1⟩ : ∃ a n c, ∃ ws : List L.WK, c1 = .slice a n c ∧ L.RdW w a n ws ∧ n ≤ maxLen := by
    rcases L.open_W Tryz.underlying33 Tryz.underlying247 (by kernel_rfl) (by kernel_rfl) Tryz.underlying3 Tryz.underlying3 ((hff 1 _ rfl).trans hy1) with hcs | ⟨x, l, c, ws, hcs, hm, hr⟩
    · simp [cellsSLW] at hcs
      exact ⟨none, 0, 0, [], hcs, ⟨rfl, fun h => absurd h (by omega)⟩, by unfold maxLen; omega⟩
    · simp [cellsSLW] at hcs
      exact ⟨some x, l, c, ws, hcs, hr, hm⟩
  have l0 := r0.1
  have l1 := r1.1
  subst l0 l1
  exact ⟨⟨a0, k0, a1, k1⟩, vs, ws, e0, e1, ⟨r0, r1⟩, m0, m1⟩
set_option maxRecDepth 100000 in
theorem store_of {H : Type} {enc : TypeId × Value → H} {w : World} {held : Bool} {fuel : Nat} {c0 c1 c2 c3 c4 c5 c6 c7 c8 : Value} {x : DataW H × List MemPlace} (h : DataW.trod enc Tryz.prog w 0 (fun _ => true) held fuel 30 [c0, c1, c2, c3, c4, c5, c6, c7, c8] = some x) :
    ∃ (h : HD) (D : DD) (ep : Int) (la : Option Addr) (ln lc : Nat) (L : List DR) (su : Int) (fa : Option Addr) (fn fc : Nat) (F : List FF) (ha : Int), (c0 = .slice h.a0 h.n0 h.c0 ∧ c1 = .slice h.a1 h.n1 h.c1 ∧ c2 = .bool h.b ∧ c3 = .slice h.a2 h.n2 h.c2 ∧ c4 = .int .i64 ep ∧ c5 = .slice la ln lc ∧ c6 = .int .i64 su ∧ c7 = .slice fa fn fc ∧ c8 = .int .i64 ha) ∧ RdD w h D ∧ (h.n0 ≤ maxLen ∧ h.n1 ≤ maxLen ∧ h.n2 ≤ maxLen ∧ (∀ s ∈ D.S, s.size ≤ maxLen) ∧ ∀ p ∈ D.C, p.2.size ≤ maxLen) ∧ RdQ w la ln L ∧ (ln ≤ maxLen ∧ ∀ v ∈ L, v.b.size ≤ maxLen ∧ v.a.size ≤ maxLen) ∧ RdF w fa fn F ∧ fn ≤ maxLen ∧ ∀ i, i < fn → (F.getD i zeroF).h.n ≤ maxLen ∧ ∀ s ∈ (F.getD i zeroF).D.S, s.size ≤ maxLen := by
  obtain ⟨xs, n, _, _, _, hlen, hff⟩ := DataW.trod_struct Tryz.underlying30 h
  have g : ∀ i, i < 6 → ∃ y, xs[i]? = some y := fun i hi => ⟨_, List.getElem?_eq_getElem (by rw [hlen]; exact hi)⟩
  obtain ⟨y0, hy0⟩ := g 0 (by omega)
  obtain ⟨y1, hy1⟩ := g 1 (by omega)
  obtain ⟨y2, hy2⟩ := g 2 (by omega)
  obtain ⟨y3, hy3⟩ := g 3 (by omega)
  obtain ⟨y4, hy4⟩ := g 4 (by omega)
  obtain ⟨y5, hy5⟩ := g 5 (by omega)
  have q0 := (hff 0 _ rfl).trans hy0
  obtain ⟨ep, e1, _, _⟩ := DataW.trod_int Tryz.underlying3 ((hff 1 _ rfl).trans hy1)
  obtain ⟨la, ln, lc, L, e2, r2, m2, s2⟩ := recs_of ((hff 2 _ rfl).trans hy2)
  obtain ⟨su, e3, _, _⟩ := DataW.trod_int Tryz.underlying3 ((hff 3 _ rfl).trans hy3)
  obtain ⟨fa, fn, fc, F, e4, r4, m4, s4⟩ := frames_of ((hff 4 _ rfl).trans hy4)
  obtain ⟨ha, e5, _, _⟩ := DataW.trod_int Tryz.underlying3 ((hff 5 _ rfl).trans hy5)
  simp [cells3i, cellsSR, cellsSF, cellsLD] at e1 e2 e3 e4 e5 q0
  obtain ⟨h, D, d0, d1, d2, d3, rd, mm⟩ := disk_of q0
  exact ⟨h, D, ep, la, ln, lc, L, su, fa, fn, fc, F, ha, ⟨d0, d1, d2, d3, e1, e2, e3, e4, e5⟩, rd, mm, r2, ⟨m2, s2⟩, r4, m4, s4⟩
set_option maxRecDepth 100000 in
theorem open_engine {H : Type} {enc : TypeId × Value → H} {w : World} {held : Bool} {r : Reach} {b0 : Nat} {v : Value} {d : DataW H} {p : List MemPlace} (hv : Value.okWide Tryz.prog w r b0 37 v) (h : DataW.Trod enc Tryz.prog w 0 (fun _ => true) held 37 v d p) :
    ∃ (h : HD) (D : DD) (ep : Int) (la : Option Addr) (ln lc : Nat) (Lg : List DR) (su : Int) (fa : Option Addr) (fn fc : Nat) (F : List FF) (ha : Int) (up : Bool) (ta : Option Addr) (tc : Nat) (T : List X.WK) (k : L.HL) (K : List L.LK) (Wt : List L.WK) (nx : Int), v = .agg #[.slice h.a0 h.n0 h.c0, .slice h.a1 h.n1 h.c1, .bool h.b, .slice h.a2 h.n2 h.c2, .int .i64 ep, .slice la ln lc, .int .i64 su, .slice fa fn fc, .int .i64 ha, .bool up, .slice ta T.length tc, .slice k.a0 K.length k.c0, .slice k.a1 Wt.length k.c1, .int .i64 nx] ∧ RdE w h D la ln Lg fa fn F ta T k K Wt ∧ MaxE h D ln Lg fn F T K Wt := by
  obtain ⟨cs, rfl, hsz⟩ := okWide_struct Tryz.underlying37 hv
  obtain ⟨c0, c1, c2, c3, c4, c5, c6, c7, c8, c9, c10, c11, c12, c13, rfl⟩ := array14 (hsz.trans (by kernel_rfl))
  obtain ⟨fuel, hf⟩ := h
  obtain ⟨xs, n, _, _, _, hlen, hff⟩ := DataW.trod_struct Tryz.underlying37 hf
  have g : ∀ i, i < 5 → ∃ y, xs[i]? = some y := fun i hi => ⟨_, List.getElem?_eq_getElem (by rw [hlen]; exact hi)⟩
  obtain ⟨y0, hy0⟩ := g 0 (by omega)
  obtain ⟨y1, hy1⟩ := g 1 (by omega)
  obtain ⟨y2, hy2⟩ := g 2 (by omega)
  obtain ⟨y3, hy3⟩ := g 3 (by omega)
  obtain ⟨y4, hy4⟩ := g 4 (by omega)
  have q0 := (hff 0 _ rfl).trans hy0
  obtain ⟨up, e1, _⟩ := DataW.trod_bool Tryz.underlying4 ((hff 1 _ rfl).trans hy1)
  obtain ⟨ta, tc, T, e2, r2, m2⟩ := txs_of ((hff 2 _ rfl).trans hy2)
  have q3 := (hff 3 _ rfl).trans hy3
  obtain ⟨nx, e4, _, _⟩ := DataW.trod_int Tryz.underlying3 ((hff 4 _ rfl).trans hy4)
  simp [Value.cells, cells3i, cells4i, cellsSLT, cellsLST, cellsLLK] at e1 e2 e4 q0 q3
  subst e1 e2 e4
  obtain ⟨h, D, ep, la, ln, lc, Lg, su, fa, fn, fc, F, ha, ⟨rfl, rfl, rfl, rfl, rfl, rfl, rfl, rfl, rfl⟩, rd, mm, rq, mq, rf, mf⟩ := store_of q0
  obtain ⟨k, K, Wt, rfl, rfl, rk, mk, mw⟩ := locks_of q3
  exact ⟨h, D, ep, la, ln, lc, Lg, su, fa, fn, fc, F, ha, up, ta, tc, T, k, K, Wt, nx, rfl, ⟨rd, rq, rf, r2, rk⟩, ⟨mm, mq, mf, m2, mk, mw⟩⟩

end Go.Proofs.YtfibdpfhfgnbiaaGreatDoor
