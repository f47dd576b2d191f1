/-
  A page as the disk tells it: all that it says, to the program and to the specification.
-/
import Derived.Test.YtcokbogicbdoaaaDoorZzaj
import Derived.Test.YtcokbogicbdoaaaDoorZzal
namespace Go.Proofs.YtcokbogicbdoaaaDoor
open Go Go.RowKit
attribute [local go_sem ↓] Go.wp_at_zero Go.wp_at_succ

set_option maxRecDepth 100000 in
set_option maxHeartbeats 4000000 in
theorem c_readDP2 (h : HD) (D : DD) (p : Nat) (w : World) (r : RdD w h D) (hok : okD D = true) (hp : 1 + p < h.n0) (ht : TabH w) :
    Calls Tryd.prog 20 #[.agg #[.slice h.a0 h.n0 h.c0, .slice h.a1 h.n1 h.c1, .bool h.b, .slice h.a2 h.n2 h.c2], .int .i64 (p : Int)] w fun e w' => (∃ (h' : G.HG) (c : Int), e = .returned (.tuple #[.agg #[.int .i64 h'.l, .slice h'.a h'.n h'.c], .int .i64 c]) ∧ (c = 0 ↔ (pgO p (rdS D.S D.C (1 + p))).isSome = true) ∧ ∀ P, pgO p (rdS D.S D.C (1 + p)) = some P → G.RdG w' h' P) ∧ Below w.heap.size w w' := by
  have hn0 : h.n0 ≤ 100 := by have := (ok_parts hok).1.1; have := r.l0; omega
  have hn1 : h.n1 ≤ 500 := by have := (ok_parts hok).1.2; have := r.l1; omega
  obtain ⟨V, hV⟩ : ∃ V, (w.alloc (.cells #[.slice h.a0 h.n0 h.c0, .slice h.a1 h.n1 h.c1, .bool h.b, .slice h.a2 h.n2 h.c2] 36)).alloc (.cells #[.int .i64 0, .slice none 0 0] 49) = V := ⟨_, rfl⟩
  have HB : Hid (Below w.heap.size w V) := by unfold Hid; rw [← hV]; exact ((Below.refl _ _).alloc (Nat.le_refl _) _).alloc (by simp) _
  have X : Hid (Box V w.heap.size 36 #[.slice h.a0 h.n0 h.c0, .slice h.a1 h.n1 h.c1, .bool h.b, .slice h.a2 h.n2 h.c2]) := by unfold Hid; rw [← hV]; exact (Box.new _ _ _).alloc _
  have Y : Hid (Box V (w.heap.size + 1) 49 #[.int .i64 0, .slice none 0 0]) := by
    unfold Hid; rw [← hV]
    have := Box.new (w.alloc (.cells #[.slice h.a0 h.n0 h.c0, .slice h.a1 h.n1 h.c1, .bool h.b, .slice h.a2 h.n2 h.c2] 36)) #[.int .i64 0, .slice none 0 0] 49
    rwa [World.size_alloc] at this
  have HT : Hid (TabH w) := ht
  obtain ⟨s, hs⟩ : ∃ s, s = rdS D.S D.C (1 + p) := ⟨_, rfl⟩
  have hsz : s.size ≤ 160 := by rw [hs]; exact rdS_size (ok_parts hok).2.1 (ok_parts hok).2.2
  have RS := c_readSector h.a0 h.n0 h.c0 h.a1 h.n1 h.c1 h.b h.a2 h.n2 h.c2 D.S D.C (1 + p) V (r.2.1.below HB.out) (r.2.2.1.below HB.out) hp (by omega) (by omega)
  rw [← hs] at RS ⊢
  have RSx : Hid (∀ x : Int, x = 1 + (p : Int) → Calls Tryd.prog 51 #[.agg #[.slice h.a0 h.n0 h.c0, .slice h.a1 h.n1 h.c1, .bool h.b, .slice h.a2 h.n2 h.c2], .int .i64 x] V fun e W' => e = .returned (.string s) ∧ Below V.heap.size V W') := fun x hx => by
    rw [hx, show (1 + (p : Int)) = ((1 + p : Nat) : Int) by omega]; exact RS
  clear RS hs r ht hok
  obtain ⟨x0, x1, x2, x3⟩ := box4 X.out
  go_enter Tryd.func20, Tryd.ntmps20
  go_wp2_with fail
  refine (RSx.out _ (by omega)).mono ?_
  rintro e w1 ⟨rfl, hb1⟩
  have B1 : Hid (Below w.heap.size w w1) := HB.out.trans (hb1.mono HB.out.size)
  have Y1 : Hid (Box w1 (w.heap.size + 1) 49 #[.int .i64 0, .slice none 0 0]) := Y.out.belowS hb1
  clear hb1 HB X Y hV RSx x0 x1 x2 x3
  cases he : s.toList.isEmpty
  · have hcv : ∀ W : World, (convert 9 54 (.string s)).run Tryd.prog W = .ok (.slice (some ⟨W.heap.size, 0, none⟩) s.size (grownCap W s.size 0 5)) (W.drew.alloc (.cells (bytesRow s (grownCap W s.size 0 5)) 5 ((bytesRow s (grownCap W s.size 0 5)).size, (bytesRow s (grownCap W s.size 0 5)).size + 1))) := fun W => run_bytes_of_string (P := Tryd.prog) W 9 54 5 s Tryd.underlying9 Tryd.underlying54 Tryd.underlying5
    have CR : Hid (∀ (c : Nat) (fr : Nat × Nat), s.size ≤ c → Calls Tryd.prog 53 #[.int .i64 (p : Int), .slice (some ⟨w1.heap.size, 0, none⟩) s.size c] (w1.drew.alloc (.cells (bytesRow s c) 5 fr)) fun e w' => (∃ h' : G.HG, e = .returned (.tuple #[.agg #[.int .i64 h'.l, .slice h'.a h'.n h'.c], .int .i64 (G.rdC p (numsT s))]) ∧ G.OwnG w' (w1.drew.alloc (.cells (bytesRow s c) 5 fr)).heap.size w'.heap.size h' (G.rdR p (numsT s))) ∧ Below (w1.drew.alloc (.cells (bytesRow s c) 5 fr)).heap.size (w1.drew.alloc (.cells (bytesRow s c) 5 fr)) w') := fun c fr hc =>
      G.c_implRP p (some ⟨w1.heap.size, 0, none⟩) s.size c (numsT s) (w1.drew.alloc (.cells (bytesRow s c) 5 fr)) (by
        have := conv_rdV (W := w1.drew) (zs := numsT s) (c := c) (fr := fr) (nums_bytes s)
        rw [nums_get, nums_len] at this
        exact this) (nums_bytes s) (by omega) hc (HT.out.below ((B1.out.drew).alloc (by have := B1.out.size; simpa using this) _))
    have HP : Hid (_ ∧ _) := pg_at (no := p) (s := s) (by omega) he
    have hne : (s.toList == []) = false := by cases hh : s.toList with | nil => rw [hh] at he; cases he | cons _ _ => rfl
    go_wp2_with fail
    refine (CR.out _ _ (grownCap_ge _ _ _ _)).mono ?_
    rintro e w2 ⟨⟨h2, rfl, o2⟩, hb2⟩
    have HO2 : Hid (∃ B E, w.heap.size + 1 < B ∧ G.OwnG w2 B E h2 (G.rdR p (numsT s))) := ⟨_, _, by have := Y1.out.lt; simp; omega, o2⟩
    have BA : Hid (Below w1.heap.size w1 w2) := ((Below.refl _ _).drew.alloc (Nat.le_refl _) _).trans (hb2.mono (by simp))
    have B2 : Hid (Below w.heap.size w w2) := B1.out.trans (BA.out.mono B1.out.size)
    have Y2 : Hid (Box w2 (w.heap.size + 1) 49 #[.int .i64 0, .slice none 0 0]) := Y1.out.belowS BA.out
    clear hb2 hcv CR o2 BA B1 Y1
    obtain ⟨u0, u1⟩ := G.box2 Y2.out
    have t0 := Y2.out.thaw 0
    have t1 := Y2.out.thaw 1
    go_wp2
    refine G.retG2 Tryd.results20 rfl rfl rfl (G.put2_box Y2.out _ _) ⟨⟨h2, _, rfl, HP.out.1, fun P hP => by obtain ⟨B, E, hB, o⟩ := HO2.out; rw [HP.out.2 P hP] at o; exact (o.put2 (.inl hB) _ _).rd⟩, G.put2_below B2.out (by omega) _ _⟩
  · have HP : Hid (pgO p s = some G.newG) := pg_new he
    have hse : s.toList = [] := List.isEmpty_iff.1 he
    clear he
    go_wp2_with fail
    refine (G.c_implNew w1).mono ?_
    rintro e w2 ⟨⟨h2, rfl, o2⟩, hb2⟩
    have HO2 : Hid (∃ B E, w.heap.size + 1 < B ∧ G.OwnG w2 B E h2 G.newG) := ⟨_, _, Y1.out.lt, o2⟩
    have B2 : Hid (Below w.heap.size w w2) := B1.out.trans (hb2.mono B1.out.size)
    have Y2 : Hid (Box w2 (w.heap.size + 1) 49 #[.int .i64 0, .slice none 0 0]) := Y1.out.belowS hb2
    clear hb2 o2 B1 Y1
    obtain ⟨u0, u1⟩ := G.box2 Y2.out
    have t0 := Y2.out.thaw 0
    have t1 := Y2.out.thaw 1
    go_wp2
    refine G.retG2 Tryd.results20 rfl rfl rfl (G.put2_box Y2.out _ _) ⟨⟨h2, 0, rfl, by rw [HP.out]; simp, fun P hP => by rw [HP.out] at hP; cases hP; obtain ⟨B, E, hB, o⟩ := HO2.out; exact (o.put2 (.inl hB) _ _).rd⟩, G.put2_below B2.out (by omega) _ _⟩
set_option maxRecDepth 100000 in
set_option maxHeartbeats 4000000 in
theorem c_l03R2 (no : Int) (s : ByteArray) (w : World) (hs : s.size ≤ 65536) :
    Calls Tryd.prog 42 #[.int .i64 no, .string s] w fun e w' => (∃ h' : G.HG, e = .returned (.tuple #[.agg #[.int .i64 h'.l, .slice h'.a h'.n h'.c], .bool (rdO no s).isSome]) ∧ ∀ P, rdO no s = some P → G.OwnG w' w.heap.size w'.heap.size h' P) ∧ Below w.heap.size w w' := by
  have hl : (numsT s).length = s.size := nums_len s
  cases hu : unsB (numsT s)
  · have E : Hid (rdO no s = none) := by unfold Hid rdO; rw [hu]; rfl
    obtain ⟨V, hV⟩ : ∃ V, w.alloc (.cells #[.int .i64 0, .slice none 0 0] 49) = V := ⟨_, rfl⟩
    have HB : Hid (Below w.heap.size w V) := by unfold Hid; rw [← hV]; exact (Below.refl _ _).alloc (Nat.le_refl _) _
    have BR : Hid (Box V w.heap.size 49 #[.int .i64 0, .slice none 0 0]) := by unfold Hid; rw [← hV]; exact Box.new _ _ _
    obtain ⟨T, US⟩ : ∃ T, Calls Tryd.prog 66 #[.string s] V fun e w' => e = .returned (.tuple #[.string T, .bool false]) ∧ Below V.heap.size V w' := by
      by_cases h4 : s.size < 4
      · refine ⟨⟨#[]⟩, ?_⟩
        have := c_unsealS_lo (numsT s) V (by omega)
        rw [nums_get] at this
        exact this.mono fun e w' ⟨he, q, hq⟩ => ⟨he, by rw [hq]; exact below_drewN (Below.refl _ _) q⟩
      · refine ⟨unsT (numsT s) false, ?_⟩
        have := c_unsealS (numsT s) V (nums_bytes s) (by omega) (by omega)
        rw [nums_get, hu] at this
        exact this
    clear hu hl hs
    go_enter Tryd.func42, Tryd.ntmps42
    go_wp2_with fail
    refine US.mono ?_
    rintro e' w1 ⟨rfl, hb⟩
    have B1 : Hid (Below w.heap.size w w1) := HB.out.trans (hb.mono HB.out.size)
    have BR1 : Hid (Box w1 w.heap.size 49 #[.int .i64 0, .slice none 0 0]) := BR.out.belowS hb
    clear hb hV HB BR US
    obtain ⟨u0, u1⟩ := G.box2 BR1.out
    have t0 := BR1.out.thaw 0
    have t1 := BR1.out.thaw 1
    go_wp2
    refine G.retG2 Tryd.results42 rfl rfl rfl (G.put2_box BR1.out _ _) ⟨?_, G.put2_below B1.out (Nat.le_refl _) _ _⟩
    rw [E.out]
    exact ⟨⟨0, none, 0, 0⟩, rfl, fun _ h => by cases h⟩
  · have h4 : 4 ≤ s.size := by
      rcases Nat.lt_or_ge s.size 4 with h | h
      · rw [uns_lo (by rw [nums_len]; exact h)] at hu; cases hu
      · exact h
    have E : rdO no s = G.rpD no (headZ (numsT s)) := by unfold rdO; rw [hu]; rfl
    have := G.c_read no (numsT s) w (nums_bytes s) (by omega) (by omega) hu
    rw [nums_get] at this
    rw [E]
    exact this.mono fun e w' ⟨⟨h', he, D', o, hD⟩, hb⟩ => ⟨⟨h', he, fun P hP => by have q := o; rw [hD P hP] at q; exact q⟩, hb⟩
set_option maxRecDepth 100000 in
set_option maxHeartbeats 4000000 in
theorem c_l05Page2 (h : HD) (D : DD) (p : Nat) (w : World) (r : RdD w h D) (hok : okD D = true) (hp : 1 + p < h.n0) :
    Calls Tryd.prog 15 #[.agg #[.slice h.a0 h.n0 h.c0, .slice h.a1 h.n1 h.c1, .bool h.b, .slice h.a2 h.n2 h.c2], .int .i64 (p : Int)] w fun e w' => (∃ h' : G.HG, e = .returned (.tuple #[.agg #[.int .i64 h'.l, .slice h'.a h'.n h'.c], .bool (pgO p (rdS D.S D.C (1 + p))).isSome]) ∧ ∀ P, pgO p (rdS D.S D.C (1 + p)) = some P → G.RdG w' h' P) ∧ Below w.heap.size w w' := by
  have hn0 : h.n0 ≤ 100 := by have := (ok_parts hok).1.1; have := r.l0; omega
  have hn1 : h.n1 ≤ 500 := by have := (ok_parts hok).1.2; have := r.l1; omega
  obtain ⟨V, hV⟩ : ∃ V, (w.alloc (.cells #[.slice h.a0 h.n0 h.c0, .slice h.a1 h.n1 h.c1, .bool h.b, .slice h.a2 h.n2 h.c2] 36)).alloc (.cells #[.int .i64 0, .slice none 0 0] 49) = V := ⟨_, rfl⟩
  have HB : Hid (Below w.heap.size w V) := by unfold Hid; rw [← hV]; exact ((Below.refl _ _).alloc (Nat.le_refl _) _).alloc (by simp) _
  have X : Hid (Box V w.heap.size 36 #[.slice h.a0 h.n0 h.c0, .slice h.a1 h.n1 h.c1, .bool h.b, .slice h.a2 h.n2 h.c2]) := by unfold Hid; rw [← hV]; exact (Box.new _ _ _).alloc _
  have Y : Hid (Box V (w.heap.size + 1) 49 #[.int .i64 0, .slice none 0 0]) := by
    unfold Hid; rw [← hV]
    have := Box.new (w.alloc (.cells #[.slice h.a0 h.n0 h.c0, .slice h.a1 h.n1 h.c1, .bool h.b, .slice h.a2 h.n2 h.c2] 36)) #[.int .i64 0, .slice none 0 0] 49
    rwa [World.size_alloc] at this
  obtain ⟨s, hs⟩ : ∃ s, s = rdS D.S D.C (1 + p) := ⟨_, rfl⟩
  have hsz : s.size ≤ 160 := by rw [hs]; exact rdS_size (ok_parts hok).2.1 (ok_parts hok).2.2
  have RS := c_l02Read h.a0 h.n0 h.c0 h.a1 h.n1 h.c1 h.b h.a2 h.n2 h.c2 D.S D.C (1 + p) V (r.2.1.below HB.out) (r.2.2.1.below HB.out) hp (by omega) (by omega)
  rw [← hs] at RS ⊢
  have RSx : Hid (∀ x : Int, x = 1 + (p : Int) → Calls Tryd.prog 40 #[.agg #[.slice h.a0 h.n0 h.c0, .slice h.a1 h.n1 h.c1, .bool h.b, .slice h.a2 h.n2 h.c2], .int .i64 x] V fun e W' => e = .returned (.string s) ∧ Below V.heap.size V W') := fun x hx => by
    rw [hx, show (1 + (p : Int)) = ((1 + p : Nat) : Int) by omega]; exact RS
  clear RS hs r hok
  obtain ⟨x0, x1, x2, x3⟩ := box4 X.out
  go_enter Tryd.func15, Tryd.ntmps15
  go_wp2_with fail
  refine (RSx.out _ (by omega)).mono ?_
  rintro e w1 ⟨rfl, hb1⟩
  have B1 : Hid (Below w.heap.size w w1) := HB.out.trans (hb1.mono HB.out.size)
  have Y1 : Hid (Box w1 (w.heap.size + 1) 49 #[.int .i64 0, .slice none 0 0]) := Y.out.belowS hb1
  clear hb1 HB X Y hV RSx x0 x1 x2 x3
  cases he : s.toList.isEmpty
  · have HP : Hid (pgO p s = rdO p s) := pg_rd he
    have hne : (s.toList == []) = false := by cases hh : s.toList with | nil => rw [hh] at he; cases he | cons _ _ => rfl
    go_wp2_with fail
    refine (c_l03R2 p s w1 (by omega)).mono ?_
    rintro e w2 ⟨⟨h2, rfl, hP2⟩, hb2⟩
    have HP2 : Hid (∃ B E, w.heap.size + 1 < B ∧ ∀ P, rdO p s = some P → G.OwnG w2 B E h2 P) := ⟨_, _, Y1.out.lt, hP2⟩
    have B2 : Hid (Below w.heap.size w w2) := B1.out.trans (hb2.mono B1.out.size)
    have Y2 : Hid (Box w2 (w.heap.size + 1) 49 #[.int .i64 0, .slice none 0 0]) := Y1.out.belowS hb2
    clear hb2 hP2 B1 Y1
    obtain ⟨u0, u1⟩ := G.box2 Y2.out
    have t0 := Y2.out.thaw 0
    have t1 := Y2.out.thaw 1
    go_wp2
    refine G.retG2 Tryd.results15 rfl rfl rfl (G.put2_box Y2.out _ _) ⟨⟨h2, by rw [HP.out]; rfl, fun P hP => by obtain ⟨B, E, hB, o⟩ := HP2.out; exact ((o P (by rw [← HP.out]; exact hP)).put2 (.inl hB) _ _).rd⟩, G.put2_below B2.out (by omega) _ _⟩
  · have HP : Hid (pgO p s = some G.newG) := pg_new he
    have hse : s.toList = [] := List.isEmpty_iff.1 he
    clear he
    go_wp2_with fail
    refine (G.c_specNew w1).mono ?_
    rintro e w2 ⟨⟨h2, rfl, o2⟩, hb2⟩
    have HO2 : Hid (∃ B E, w.heap.size + 1 < B ∧ G.OwnG w2 B E h2 G.newG) := ⟨_, _, Y1.out.lt, o2⟩
    have B2 : Hid (Below w.heap.size w w2) := B1.out.trans (hb2.mono B1.out.size)
    have Y2 : Hid (Box w2 (w.heap.size + 1) 49 #[.int .i64 0, .slice none 0 0]) := Y1.out.belowS hb2
    clear hb2 o2 B1 Y1
    obtain ⟨u0, u1⟩ := G.box2 Y2.out
    have t0 := Y2.out.thaw 0
    have t1 := Y2.out.thaw 1
    go_wp2
    refine G.retG2 Tryd.results15 rfl rfl rfl (G.put2_box Y2.out _ _) ⟨⟨h2, by rw [HP.out]; rfl, fun P hP => by rw [HP.out] at hP; cases hP; obtain ⟨B, E, hB, o⟩ := HO2.out; exact (o.put2 (.inl hB) _ _).rd⟩, G.put2_below B2.out (by omega) _ _⟩

end Go.Proofs.YtcokbogicbdoaaaDoor
