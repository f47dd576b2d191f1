/-
  Right stores: a page of the disk: the walk of the program's readDiskPage.
-/
import Derived.Test.YtcokbogicbdoaaaDoorZzah
import Derived.Test.YtcokbogicbdoaaaDoorZzai
import Derived.Test.YtcokbogicbdoaaaDoorYlaq
import Derived.Test.YtcokbogicbdoaaaDoorZzac
import Derived.Deep.RegionHeld3
namespace Go.Proofs.YtcokbogicbdoaaaDoor
open Go Go.RowKit
attribute [local go_sem ↓] Go.wp_at_zero Go.wp_at_succ

/-- The record that a sector's text is, if it is one. -/
def rcO (s : ByteArray) : Option DR := if unsB (numsT s) then rrD (headZ (numsT s)) else none
theorem rc_some {s : ByteArray} {D : DR} (hs : s.size ≤ 65536) (h : rcO s = some D) : rdC2 (numsT s) = 0 ∧ rdR2 (numsT s) = D := by
  unfold rcO at h
  split at h
  · rename_i hu
    exact rq0 (by rw [nums_len]; omega) hu h
  · cases h
theorem rc_none {s : ByteArray} (hs : s.size ≤ 65536) (h : rcO s = none) : ∃ c, rdC2 (numsT s) = c ∧ rdR2 (numsT s) = zeroR ∧ (c != 0) = true := by
  unfold rcO at h
  have hl : ¬ 65536 < (numsT s).length := by rw [nums_len]; omega
  split at h
  · rename_i hu
    exact ⟨3, (rq3 hl hu h).1, (rq3 hl hu h).2, rfl⟩
  · rename_i hu
    exact ⟨8, (rq8 hl (by simpa using hu)).1, (rq8 hl (by simpa using hu)).2, rfl⟩
theorem rr_ok {x : List Int} {D : DR} (h : rrD x = some D) : okLR D = true := by
  unfold rrD at h
  split at h
  · cases h
  · split at h
    · split at h
      · split at h
        · rename_i hk; cases h; exact hk
        · cases h
      · cases h
    · cases h
theorem rc_ok {s : ByteArray} {D : DR} (h : rcO s = some D) : okLR D = true := by
  unfold rcO at h
  split at h
  · exact rr_ok h
  · cases h
theorem rc_rng {s : ByteArray} {D : DR} (h : rcO s = some D) : (1 ≤ D.e ∧ D.e ≤ 60) ∧ (1 ≤ D.l ∧ D.l ≤ 60) := by
  have := rc_ok h
  unfold okLR inB at this
  simp only [Bool.and_eq_true, decide_eq_true_eq] at this
  exact ⟨⟨by omega, by omega⟩, ⟨by omega, by omega⟩⟩
def lastE (acc : List DR) : Int := (acc.getLast?.map (·.e)).getD 0
theorem lastE_nil : lastE [] = 0 := rfl
theorem lastE_app (acc : List DR) (r : DR) : lastE (acc ++ [r]) = r.e := by unfold lastE; rw [List.getLast?_append]; rfl
theorem lastE_get (acc : List DR) (p : Nat) (h : acc.length = p + 1) : lastE acc = (acc.getD p zeroR).e := by
  unfold lastE
  rw [List.getLast?_eq_getElem?, h, List.getD_eq_getElem?_getD, Nat.add_sub_cancel, List.getElem?_eq_getElem (by omega)]
  rfl
/-- The next record, if there is one. -/
def stepL (T : Nat → ByteArray) (n0 : Nat) (ep : Int) (acc : List DR) : Option DR :=
  if 9 + acc.length < n0 then (match rcO (T (9 + acc.length)) with | some r => if r.l = (acc.length : Int) + 1 ∧ lastE acc ≤ r.e ∧ r.e ≤ ep then some r else none | none => none) else none
def logL (T : Nat → ByteArray) (n0 : Nat) (ep : Int) : Nat → List DR → List DR
  | 0, acc => acc
  | f + 1, acc => match stepL T n0 ep acc with | some r => logL T n0 ep f (acc ++ [r]) | none => acc
theorem st_far {T : Nat → ByteArray} {n0 : Nat} {ep : Int} {acc : List DR} {k : Nat} (hk : acc.length = k) (h : ¬ 9 + k < n0) : stepL T n0 ep acc = none := by subst hk; unfold stepL; rw [if_neg h]
theorem st_none {T : Nat → ByteArray} {n0 : Nat} {ep : Int} {acc : List DR} {k : Nat} (hk : acc.length = k) (h : rcO (T (9 + k)) = none) : stepL T n0 ep acc = none := by subst hk; unfold stepL; rw [h]; split <;> rfl
theorem st_bad {T : Nat → ByteArray} {n0 : Nat} {ep : Int} {acc : List DR} {k : Nat} (hk : acc.length = k) {r : DR} (h : rcO (T (9 + k)) = some r) (hb : ¬ (r.l = (k : Int) + 1 ∧ lastE acc ≤ r.e ∧ r.e ≤ ep)) : stepL T n0 ep acc = none := by
  subst hk; unfold stepL; rw [h]; split
  · exact if_neg hb
  · rfl
theorem st_good {T : Nat → ByteArray} {n0 : Nat} {ep : Int} {acc : List DR} {k : Nat} (hk : acc.length = k) (h9 : 9 + k < n0) {r : DR} (h : rcO (T (9 + k)) = some r) (hb : r.l = (k : Int) + 1 ∧ lastE acc ≤ r.e ∧ r.e ≤ ep) : stepL T n0 ep acc = some r := by
  subst hk; unfold stepL; rw [if_pos h9, h]; exact if_pos hb
theorem log_end {T : Nat → ByteArray} {n0 : Nat} {ep : Int} {acc R : List DR} {k : Nat} (h9 : k ≤ 100) (HL : logL T n0 ep (200 - k) acc = R) (hs : stepL T n0 ep acc = none) : R = acc := by
  rw [show 200 - k = (199 - k) + 1 by omega] at HL
  rw [← HL]
  unfold logL
  rw [hs]
theorem log_more {T : Nat → ByteArray} {n0 : Nat} {ep : Int} {acc R : List DR} {k : Nat} (h9 : k ≤ 100) (HL : logL T n0 ep (200 - k) acc = R) {r : DR} (hs : stepL T n0 ep acc = some r) : logL T n0 ep (200 - (k + 1)) (acc ++ [r]) = R := by
  rw [show 200 - k = (200 - (k + 1)) + 1 by omega] at HL
  rw [← HL]
  conv => rhs; unfold logL
  rw [hs]
def logR (D : DD) (ep : Int) : List DR := if okD D && inB ep 0 60 then logL (rdS D.S D.C) D.S.length ep 200 [] else []
def logC (D : DD) (ep : Int) : Int := if okD D then (if inB ep 0 60 then 0 else 4) else 1
theorem lg_bad {D : DD} {ep : Int} (h : okD D = false) : logR D ep = [] ∧ logC D ep = 1 := by unfold logR logC; rw [h]; exact ⟨rfl, rfl⟩
theorem lg_ep {D : DD} {ep : Int} (h : okD D = true) (h' : inB ep 0 60 = false) : logR D ep = [] ∧ logC D ep = 4 := by unfold logR logC; rw [h, h']; exact ⟨rfl, rfl⟩
theorem lg_yes {D : DD} {ep : Int} (h : okD D = true) (h' : inB ep 0 60 = true) : logL (rdS D.S D.C) D.S.length ep 200 [] = logR D ep ∧ logC D ep = 0 := by unfold logR logC; rw [h, h']; exact ⟨rfl, rfl⟩
theorem ok_parts {D : DD} (h : okD D = true) : (D.S.length ≤ 100 ∧ D.C.length ≤ 500) ∧ (∀ s ∈ D.S, s.size ≤ 160) ∧ ∀ p ∈ D.C, p.2.size ≤ 160 := by
  unfold okD at h
  simp only [Bool.and_eq_true, decide_eq_true_eq, List.all_eq_true] at h
  refine ⟨⟨h.1.2.1, h.1.2.2.1⟩, h.2.1, fun p hp => ?_⟩
  have := h.2.2.1 p hp
  unfold goodC at this
  simp only [Bool.and_eq_true, decide_eq_true_eq] at this
  exact this.2
theorem rdS_size {S : List ByteArray} {C : List PP} {j : Nat} (h0 : ∀ s ∈ S, s.size ≤ 160) (h1 : ∀ p ∈ C, p.2.size ≤ 160) : (rdS S C j).size ≤ 160 := by
  cases hf : fdB (bkL C C.length C.length) j with
  | none =>
    rw [rdS_miss hf, List.getD_eq_getElem?_getD]
    cases hs : S[j]? with
    | none => exact Nat.zero_le _
    | some s => exact h0 s (List.mem_of_getElem? hs)
  | some y =>
    rw [rdS_hit (Nat.le_refl _) hf]
    unfold fdB at hf
    have hm := List.mem_of_find?_eq_some hf
    unfold bkL at hm
    obtain ⟨i, hi, rfl⟩ := List.mem_map.1 hm
    have hi' := List.mem_range.1 hi
    unfold bkF
    dsimp only
    refine h1 _ ?_
    rw [List.getD_eq_getElem?_getD, List.getElem?_eq_getElem (by omega)]
    exact List.getElem_mem _
theorem infoQm : (Tryd.prog.info? 68).map (fun i => (i.zero, i.size, i.bytes)) = some (some (.agg #[.int .i64 0, .int .i64 0, .int .i64 0, .int .i64 0, .int .i64 0, .int .i64 0, .int .i64 0, .int .i64 0, .string ⟨#[]⟩, .string ⟨#[]⟩]), 10, 96) := by kernel_rfl
theorem cQ_one (v : DR) : ∀ u ∈ cQ v, u.oneCell' = true := by
  intro u hu
  unfold cQ at hu
  simp only [List.mem_cons, List.not_mem_nil, or_false] at hu
  rcases hu with rfl | rfl | rfl | rfl | rfl | rfl | rfl | rfl | rfl | rfl <;> rfl
theorem box_newQ {w : World} {g : Nat} {v : DR} {ty : TypeId} (hb : Box w g ty (agR v)) : ∀ j u, (cQ v)[j]? = some u → w.cell? ((⟨g, 0, none⟩ : Addr).add j) = some u := by
  intro j u h
  have e : (⟨g, 0, none⟩ : Addr).add j = ⟨g, j, none⟩ := by unfold Addr.add; split <;> simp_all
  rw [e, hb.cell]
  unfold cQ at h
  unfold agR
  simpa using h

end Go.Proofs.YtcokbogicbdoaaaDoor
namespace Go.Proofs.YtcokbogicbdoaaaDoor
open Go Go.RowKit
attribute [local go_sem ↓] Go.wp_at_zero Go.wp_at_succ

/-- The page that a sector's text is, if it is one. -/
def pgO (no : Int) (s : ByteArray) : Option G.DG := if s.toList.isEmpty then some G.newG else if unsB (numsT s) then G.rpD no (headZ (numsT s)) else none
theorem pg_new {no : Int} {s : ByteArray} (h : s.toList.isEmpty = true) : pgO no s = some G.newG := by unfold pgO; rw [h]; rfl
theorem pg_at {no : Int} {s : ByteArray} (hs : s.size ≤ 65536) (h : s.toList.isEmpty = false) : (G.rdC no (numsT s) = 0 ↔ (pgO no s).isSome = true) ∧ ∀ P, pgO no s = some P → G.rdR no (numsT s) = P := by
  have hl : ¬ 65536 < (numsT s).length := by rw [nums_len]; omega
  unfold pgO G.rdC G.rdR
  rw [h, if_neg hl, if_neg hl]
  cases hu : unsB (numsT s)
  · simp
  · cases hr : G.rpD no (headZ (numsT s)) with
    | none => simp
    | some P => simp [G.rpP]
set_option maxRecDepth 100000 in
set_option maxHeartbeats 4000000 in
theorem c_readDP (h : HD) (D : DD) (p : Nat) (w : World) (r : RdD w h D) (hok : okD D = true) (hp : 1 + p < h.n0) (ht : TabH w) :
    Calls Tryd.prog 20 #[.agg #[.slice h.a0 h.n0 h.c0, .slice h.a1 h.n1 h.c1, .bool h.b, .slice h.a2 h.n2 h.c2], .int .i64 (p : Int)] w fun e w' => (∃ (h' : G.HG) (c : Int), e = .returned (.tuple #[.agg #[.int .i64 h'.l, .slice h'.a h'.n h'.c], .int .i64 c]) ∧ (c = 0 ↔ (pgO p (rdS D.S D.C (1 + p))).isSome = true) ∧ ∀ P, pgO p (rdS D.S D.C (1 + p)) = some P → h'.l = P.L) ∧ Below w.heap.size w w' := by
  have hn0 : h.n0 ≤ 100 := by have := (ok_parts hok).1.1; have := r.l0; omega
  have hn1 : h.n1 ≤ 500 := by have := (ok_parts hok).1.2; have := r.l1; omega
  obtain ⟨V, hV⟩ : ∃ V, (w.alloc (.cells #[.slice h.a0 h.n0 h.c0, .slice h.a1 h.n1 h.c1, .bool h.b, .slice h.a2 h.n2 h.c2] 36)).alloc (.cells #[.int .i64 0, .slice none 0 0] 49) = V := ⟨_, rfl⟩
  have HB : Hid (Below w.heap.size w V) := by unfold Hid; rw [← hV]; exact ((Below.refl _ _).alloc (Nat.le_refl _) _).alloc (by simp) _
  have X : Hid (Box V w.heap.size 36 #[.slice h.a0 h.n0 h.c0, .slice h.a1 h.n1 h.c1, .bool h.b, .slice h.a2 h.n2 h.c2]) := by unfold Hid; rw [← hV]; exact (Box.new _ _ _).alloc _
  have Y : Hid (Box V (w.heap.size + 1) 49 #[.int .i64 0, .slice none 0 0]) := by
    unfold Hid; rw [← hV]
    have := Box.new (w.alloc (.cells #[.slice h.a0 h.n0 h.c0, .slice h.a1 h.n1 h.c1, .bool h.b, .slice h.a2 h.n2 h.c2] 36)) #[.int .i64 0, .slice none 0 0] 49
    rwa [World.size_alloc] at this
  have HT : Hid (TabH w) := ht
  obtain ⟨s, hs⟩ : ∃ s, s = rdS D.S D.C (1 + p) := ⟨_, rfl⟩
  have hsz : s.size ≤ 160 := by rw [hs]; exact rdS_size (ok_parts hok).2.1 (ok_parts hok).2.2
  have RS := c_readSector h.a0 h.n0 h.c0 h.a1 h.n1 h.c1 h.b h.a2 h.n2 h.c2 D.S D.C (1 + p) V (r.2.1.below HB.out) (r.2.2.1.below HB.out) hp (by omega) (by omega)
  rw [← hs] at RS ⊢
  have RSx : Hid (∀ x : Int, x = 1 + (p : Int) → Calls Tryd.prog 51 #[.agg #[.slice h.a0 h.n0 h.c0, .slice h.a1 h.n1 h.c1, .bool h.b, .slice h.a2 h.n2 h.c2], .int .i64 x] V fun e W' => e = .returned (.string s) ∧ Below V.heap.size V W') := fun x hx => by
    rw [hx, show (1 + (p : Int)) = ((1 + p : Nat) : Int) by omega]; exact RS
  clear RS hs r ht hok
  obtain ⟨x0, x1, x2, x3⟩ := box4 X.out
  go_enter Tryd.func20, Tryd.ntmps20
  go_wp2_with fail
  refine (RSx.out _ (by omega)).mono ?_
  rintro e w1 ⟨rfl, hb1⟩
  have B1 : Hid (Below w.heap.size w w1) := HB.out.trans (hb1.mono HB.out.size)
  have Y1 : Hid (Box w1 (w.heap.size + 1) 49 #[.int .i64 0, .slice none 0 0]) := Y.out.belowS hb1
  clear hb1 HB X Y hV RSx x0 x1 x2 x3
  cases he : s.toList.isEmpty
  · have hcv : ∀ W : World, (convert 9 54 (.string s)).run Tryd.prog W = .ok (.slice (some ⟨W.heap.size, 0, none⟩) s.size (grownCap W s.size 0 5)) (W.drew.alloc (.cells (bytesRow s (grownCap W s.size 0 5)) 5 ((bytesRow s (grownCap W s.size 0 5)).size, (bytesRow s (grownCap W s.size 0 5)).size + 1))) := fun W => run_bytes_of_string (P := Tryd.prog) W 9 54 5 s Tryd.underlying9 Tryd.underlying54 Tryd.underlying5
    have CR : Hid (∀ (c : Nat) (fr : Nat × Nat), s.size ≤ c → Calls Tryd.prog 53 #[.int .i64 (p : Int), .slice (some ⟨w1.heap.size, 0, none⟩) s.size c] (w1.drew.alloc (.cells (bytesRow s c) 5 fr)) fun e w' => (∃ h' : G.HG, e = .returned (.tuple #[.agg #[.int .i64 h'.l, .slice h'.a h'.n h'.c], .int .i64 (G.rdC p (numsT s))]) ∧ G.OwnG w' (w1.drew.alloc (.cells (bytesRow s c) 5 fr)).heap.size w'.heap.size h' (G.rdR p (numsT s))) ∧ Below (w1.drew.alloc (.cells (bytesRow s c) 5 fr)).heap.size (w1.drew.alloc (.cells (bytesRow s c) 5 fr)) w') := fun c fr hc =>
      G.c_implRP p (some ⟨w1.heap.size, 0, none⟩) s.size c (numsT s) (w1.drew.alloc (.cells (bytesRow s c) 5 fr)) (by
        have := conv_rdV (W := w1.drew) (zs := numsT s) (c := c) (fr := fr) (nums_bytes s)
        rw [nums_get, nums_len] at this
        exact this) (nums_bytes s) (by omega) hc (HT.out.below ((B1.out.drew).alloc (by have := B1.out.size; simpa using this) _))
    have HP : Hid (_ ∧ _) := pg_at (no := p) (s := s) (by omega) he
    have hne : (s.toList == []) = false := by cases hh : s.toList with | nil => rw [hh] at he; cases he | cons _ _ => rfl
    go_wp2_with fail
    refine (CR.out _ _ (grownCap_ge _ _ _ _)).mono ?_
    rintro e w2 ⟨⟨h2, rfl, o2⟩, hb2⟩
    have HL2 : Hid (h2.l = (G.rdR p (numsT s)).L) := o2.1
    have BA : Hid (Below w1.heap.size w1 w2) := ((Below.refl _ _).drew.alloc (Nat.le_refl _) _).trans (hb2.mono (by simp))
    have B2 : Hid (Below w.heap.size w w2) := B1.out.trans (BA.out.mono B1.out.size)
    have Y2 : Hid (Box w2 (w.heap.size + 1) 49 #[.int .i64 0, .slice none 0 0]) := Y1.out.belowS BA.out
    clear hb2 hcv CR o2 BA B1 Y1
    obtain ⟨u0, u1⟩ := G.box2 Y2.out
    have t0 := Y2.out.thaw 0
    have t1 := Y2.out.thaw 1
    go_wp2
    refine G.retG2 Tryd.results20 rfl rfl rfl (G.put2_box Y2.out _ _) ⟨⟨h2, _, rfl, HP.out.1, fun P hP => by rw [HL2.out, HP.out.2 P hP]⟩, G.put2_below B2.out (by omega) _ _⟩
  · have HP : Hid (pgO p s = some G.newG) := pg_new he
    have hse : s.toList = [] := List.isEmpty_iff.1 he
    clear he
    go_wp2_with fail
    refine (G.c_implNew w1).mono ?_
    rintro e w2 ⟨⟨h2, rfl, o2⟩, hb2⟩
    have HL2 : Hid (h2.l = G.newG.L) := o2.1
    have B2 : Hid (Below w.heap.size w w2) := B1.out.trans (hb2.mono B1.out.size)
    have Y2 : Hid (Box w2 (w.heap.size + 1) 49 #[.int .i64 0, .slice none 0 0]) := Y1.out.belowS hb2
    clear hb2 o2 B1 Y1
    obtain ⟨u0, u1⟩ := G.box2 Y2.out
    have t0 := Y2.out.thaw 0
    have t1 := Y2.out.thaw 1
    go_wp2
    refine G.retG2 Tryd.results20 rfl rfl rfl (G.put2_box Y2.out _ _) ⟨⟨h2, 0, rfl, by rw [HP.out]; simp, fun P hP => by rw [HP.out] at hP; cases hP; exact HL2.out⟩, G.put2_below B2.out (by omega) _ _⟩

end Go.Proofs.YtcokbogicbdoaaaDoor
