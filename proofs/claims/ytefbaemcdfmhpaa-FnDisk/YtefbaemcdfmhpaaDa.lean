/-
  Disks that are drawn: right ones.
-/
import Derived.Test.YtefbaemcdfmhpaaDn
import Derived.Test.YtefbaemcdfmhpaaNd
import Derived.Test.YtefbaemcdfmhpaaSy
import Derived.Test.YtefbaemcdfmhpaaWl
import Derived.Test.YtefbaemcdfmhpaaWa
namespace Go.Proofs.Ytefbaemcdfmhpaa
open Go Go.RowKit
attribute [local go_sem ↓] Go.wp_at_zero Go.wp_at_succ

theorem ok_parts {D : DD} (h : okD D = true) : (1 ≤ D.S.length ∧ D.S.length ≤ 100 ∧ D.C.length ≤ 500 ∧ D.K.length ≤ 500) ∧ (∀ s ∈ D.S, s.size ≤ 160) ∧ (∀ p ∈ D.C, goodC D.S.length p = true) ∧ (D.A = true ∨ D.K = []) := by
  unfold okD at h
  simp only [Bool.and_eq_true, decide_eq_true_eq, List.all_eq_true, Bool.or_eq_true, List.isEmpty_iff] at h
  exact ⟨h.1, h.2.1, h.2.2.1, h.2.2.2⟩
theorem ok_mk {D : DD} (h : 1 ≤ D.S.length ∧ D.S.length ≤ 100 ∧ D.C.length ≤ 500 ∧ D.K.length ≤ 500) (h1 : ∀ s ∈ D.S, s.size ≤ 160) (h2 : ∀ p ∈ D.C, goodC D.S.length p = true) (h3 : D.A = true ∨ D.K = []) : okD D = true := by
  unfold okD
  simp only [Bool.and_eq_true, decide_eq_true_eq, List.all_eq_true, Bool.or_eq_true, List.isEmpty_iff]
  exact ⟨h, h1, h2, h3⟩
theorem ok_fit {D : DD} (h : okD D = true) : Fit D := by
  obtain ⟨⟨_, h2, h3, h4⟩, h5, h6, _⟩ := ok_parts h
  refine ⟨by omega, by omega, by omega, fun s hs => by have := h5 s hs; omega, fun p hp => ?_⟩
  have := h6 p hp
  unfold goodC at this
  simp only [Bool.and_eq_true, decide_eq_true_eq] at this
  omega
theorem ok_new (n : Nat) (h : 1 ≤ n ∧ n ≤ 100) : okD (newD n) = true :=
  ok_mk ⟨by show 1 ≤ (List.replicate n _).length; simp; omega, by show (List.replicate n _).length ≤ _; simp; omega, Nat.zero_le _, Nat.zero_le _⟩ (fun s hs => by rw [List.eq_of_mem_replicate hs]; exact Nat.zero_le _) nofun (.inr rfl)
theorem ok_settled {D : DD} (h : okD D = true) {C : List PP} (hC : ∀ p ∈ C, p ∈ D.C) : okD ⟨settle D.S C, [], false, []⟩ = true := by
  obtain ⟨⟨h1, h2, _, _⟩, h5, h6, _⟩ := ok_parts h
  refine ok_mk ⟨by show 1 ≤ (settle _ _).length; rw [settle_len]; exact h1, by show (settle _ _).length ≤ _; rw [settle_len]; exact h2, Nat.zero_le _, Nat.zero_le _⟩ (settle_size h5 fun p hp => ?_) nofun (.inr rfl)
  have := h6 p (hC p hp)
  unfold goodC at this
  simp only [Bool.and_eq_true, decide_eq_true_eq] at this
  exact this.2
theorem ok_crash {D : DD} (h : okD D = true) (K : List Int) : okD (crashD D K) = true := ok_settled h (keptN_mem (Nat.le_refl _))
theorem ok_sync {D : DD} (h : okD D = true) : okD (syncD D) = true := by
  unfold syncD
  split
  · exact ok_crash h _
  · exact ok_settled h (fun p hp => hp)
theorem sync_C (D : DD) : (syncD D).C = [] := by unfold syncD; split <;> rfl
theorem ok_arm {D : DD} (h : okD D = true) {K : List Int} (hK : K.length ≤ 500) : okD (armD D K) = true := by
  obtain ⟨⟨h1, h2, h3, _⟩, h5, h6, _⟩ := ok_parts h
  exact ok_mk ⟨h1, h2, h3, hK⟩ h5 h6 (.inl rfl)
theorem ok_write {D : DD} (h : okD D = true) {x : Int} {s : ByteArray} (hl : D.C.length < 500) (hx : 0 ≤ x ∧ x < D.S.length) (hs : s.size ≤ 160) : okD (wrD D x s) = true := by
  obtain ⟨⟨h1, h2, h3, h4⟩, h5, h6, h7⟩ := ok_parts h
  refine ok_mk ⟨h1, h2, by show (D.C ++ [(x, s)]).length ≤ _; rw [List.length_append]; simp; omega, h4⟩ h5 (fun p hp => ?_) h7
  rcases List.mem_append.1 hp with h' | h'
  · exact h6 p h'
  · simp at h'; subst h'
    unfold goodC
    simp only [Bool.and_eq_true, decide_eq_true_eq]
    exact ⟨hx, hs⟩
/-- A right disk in memory behind g. -/
structure DOk (w : World) (g : Nat) (h : HD) (D : DD) : Prop where
  rd : RdD w h D
  src : HOK h
  ok : okD D = true
  b0 : ∀ b, ob h.a0 = some b → g < b
  b1 : ∀ b, ob h.a1 = some b → g < b
  b2 : ∀ b, ob h.a2 = some b → g < b
theorem rdV_inn {w w' : World} {B E : Nat} {a : Option Addr} {n : Nat} {xs : List Value} (h : RdV w a n xs) (hb : Inn B E w w') (hg : ∀ b, ob a = some b → E ≤ b) : RdV w' a n xs := by
  refine ⟨h.1, fun hn => ?_⟩
  obtain ⟨b, off, e, hlt, hc⟩ := h.2 hn
  exact ⟨b, off, e, Nat.lt_of_lt_of_le hlt hb.size, fun i hi => (World.cell?_of_block (a := ⟨b, off + i, none⟩) (hb.block b hlt (.inr (hg b (by rw [e]; rfl))))).trans (hc i hi)⟩
theorem rdP_inn {w w' : World} {B E : Nat} {a : Option Addr} {n : Nat} {xs : List PP} (h : RdP w a n xs) (hb : Inn B E w w') (hg : ∀ b, ob a = some b → E ≤ b) : RdP w' a n xs := by
  refine ⟨h.1, fun hn => ?_⟩
  obtain ⟨b, off, e, hlt, hc⟩ := h.2 hn
  have hs := hb.block b hlt (.inr (hg b (by rw [e]; rfl)))
  exact ⟨b, off, e, Nat.lt_of_lt_of_le hlt hb.size, fun i hi => ⟨(World.cell?_of_block (a := ⟨b, off + i * 2, none⟩) hs).trans (hc i hi).1, (World.cell?_of_block (a := ⟨b, off + i * 2 + 1, none⟩) hs).trans (hc i hi).2⟩⟩
theorem DOk.inn {w w' : World} {g : Nat} {h : HD} {D : DD} (d : DOk w g h D) (hb : Inn g (g + 1) w w') : DOk w' g h D :=
  ⟨⟨d.rd.1, rdV_inn d.rd.2.1 hb d.b0, rdP_inn d.rd.2.2.1 hb d.b1, rdV_inn d.rd.2.2.2 hb d.b2⟩, d.src, d.ok, d.b0, d.b1, d.b2⟩
theorem DOk.same {w w' : World} {g r : Nat} {h : HD} {D : DD} (d : DOk w g h D) (hs : w.heap.size ≤ w'.heap.size) (hb : ∀ k, k < w.heap.size → k ≠ r → w'.heap[k]? = w.heap[k]?) (h0 : ob h.a0 ≠ some r) (h1 : ob h.a1 ≠ some r) (h2 : ob h.a2 ≠ some r) : DOk w' g h D := by
  have f1 : ∀ (a : Option Addr) (n : Nat) (xs : List Value), RdV w a n xs → ob a ≠ some r → RdV w' a n xs := fun a n xs k hr => by
    refine ⟨k.1, fun hn => ?_⟩
    obtain ⟨b, off, e, hlt, hc⟩ := k.2 hn
    exact ⟨b, off, e, Nat.lt_of_lt_of_le hlt hs, fun i hi => (World.cell?_of_block (a := ⟨b, off + i, none⟩) (hb b hlt (fun e' => hr (by rw [e, ← e']; rfl)))).trans (hc i hi)⟩
  refine ⟨⟨d.rd.1, f1 _ _ _ d.rd.2.1 h0, ?_, f1 _ _ _ d.rd.2.2.2 h2⟩, d.src, d.ok, d.b0, d.b1, d.b2⟩
  refine ⟨d.rd.2.2.1.1, fun hn => ?_⟩
  obtain ⟨b, off, e, hlt, hc⟩ := d.rd.2.2.1.2 hn
  have hsm := hb b hlt (fun e' => h1 (by rw [e, ← e']; rfl))
  exact ⟨b, off, e, Nat.lt_of_lt_of_le hlt hs, fun i hi => ⟨(World.cell?_of_block (a := ⟨b, off + i * 2, none⟩) hsm).trans (hc i hi).1, (World.cell?_of_block (a := ⟨b, off + i * 2 + 1, none⟩) hsm).trans (hc i hi).2⟩⟩
theorem DOk.below {w w' : World} {g : Nat} {h : HD} {D : DD} (d : DOk w g h D) (hb : Below w.heap.size w w') : DOk w' g h D := ⟨d.rd.below hb, d.src, d.ok, d.b0, d.b1, d.b2⟩
theorem OwnD.dok {w : World} {g B E : Nat} {h : HD} {D : DD} (o : OwnD w B E h D) (hB : g < B) (hok : okD D = true) : DOk w g h D :=
  ⟨o.rd, o.src, hok, fun b e => by have := (o.2.2.2.2.2.1 b e).1; omega, fun b e => by have := (o.2.2.2.2.2.2.1 b e).1; omega, fun b e => by have := (o.2.2.2.2.2.2.2 b e).1; omega⟩
/-- The state of the draw: the source at g, the result at r, the disk's own cells at d. -/
structure St (w0 wb w : World) (g r d : Nat) (a : Option Addr) (n c T : Nat) (zs : List Int) (h : HD) (D : DD) : Prop where
  drw : Drw w0 w g a n c T zs
  inn : Inn g (g + 1) wb w
  res : Box w r 27 #[.slice none 0 0, .slice none 0 0, .bool false, .slice none 0 0]
  cel : Box w d 27 #[.slice h.a0 h.n0 h.c0, .slice h.a1 h.n1 h.c1, .bool h.b, .slice h.a2 h.n2 h.c2]
  dok : DOk w g h D
  n0 : ob h.a0 ≠ some d ∧ ob h.a0 ≠ some r
  n1 : ob h.a1 ≠ some d ∧ ob h.a1 ≠ some r
  n2 : ob h.a2 ≠ some d ∧ ob h.a2 ≠ some r
/-- The state behind a call that turns the source alone. -/
theorem St.next {w0 wb w w' : World} {g r d n c T T' : Nat} {a : Option Addr} {zs : List Int} {h : HD} {D : DD} (s : St w0 wb w g r d a n c T zs h D) (hd : Drw w0 w' g a n c T' zs) (hi : Inn g (g + 1) w w') (hr : g < r) (hg : g < d) : St w0 wb w' g r d a n c T' zs h D :=
  ⟨hd, s.inn.trans hi, s.res.innO hi (.inr hr), s.cel.innO hi (.inr hg), s.dok.inn hi, s.n0, s.n1, s.n2⟩
/-- .. behind a call that turns nothing that was there. -/
theorem St.below {w0 wb w w' : World} {g r d n c T : Nat} {a : Option Addr} {zs : List Int} {h : HD} {D : DD} (s : St w0 wb w g r d a n c T zs h D) (hb : Below w.heap.size w w') : St w0 wb w' g r d a n c T zs h D :=
  ⟨s.drw.below hb, s.inn.trans (Inn.of_below hb), s.res.belowS hb, s.cel.belowS hb, s.dok.below hb, s.n0, s.n1, s.n2⟩
theorem St.drew {w0 wb w : World} {g r d n c T : Nat} {a : Option Addr} {zs : List Int} {h : HD} {D : DD} (s : St w0 wb w g r d a n c T zs h D) : St w0 wb w.drew g r d a n c T zs h D := s.below ((Below.refl _ _).drew)
/-- .. where another disk has been stored into its cells. -/
theorem St.put {w0 wb w : World} {g r d n c T : Nat} {a : Option Addr} {zs : List Int} {h h' : HD} {D D' : DD} (s : St w0 wb w g r d a n c T zs h D) (o : DOk w g h' D') (hg : g < d) (hrd : r ≠ d) (hwd : wb.heap.size ≤ d)
    (h0 : ob h'.a0 ≠ some d ∧ ob h'.a0 ≠ some r) (h1 : ob h'.a1 ≠ some d ∧ ob h'.a1 ≠ some r) (h2 : ob h'.a2 ≠ some d ∧ ob h'.a2 ≠ some r) :
    St w0 wb ((((w.setCell ⟨d, 0, none⟩ (.slice h'.a0 h'.n0 h'.c0)).setCell ⟨d, 1, none⟩ (.slice h'.a1 h'.n1 h'.c1)).setCell ⟨d, 2, none⟩ (.bool h'.b)).setCell ⟨d, 3, none⟩ (.slice h'.a2 h'.n2 h'.c2)) g r d a n c T zs h' D' := by
  have ks := fun k (hk : k ≠ d) => put4_same w d k (.slice h'.a0 h'.n0 h'.c0) (.slice h'.a1 h'.n1 h'.c1) (.bool h'.b) (.slice h'.a2 h'.n2 h'.c2) hk
  have hi : Inn d (d + 1) w ((((w.setCell ⟨d, 0, none⟩ (.slice h'.a0 h'.n0 h'.c0)).setCell ⟨d, 1, none⟩ (.slice h'.a1 h'.n1 h'.c1)).setCell ⟨d, 2, none⟩ (.bool h'.b)).setCell ⟨d, 3, none⟩ (.slice h'.a2 h'.n2 h'.c2)) := ((((Inn.refl _ _ _).set _ _ (by simp)).set _ _ (by simp)).set _ _ (by simp)).set _ _ (by simp)
  refine ⟨s.drw.inn hi (.inl hg) (by have := s.drw.behind; omega), ?_, (ks r hrd).trans s.res, put4_box s.cel _ _ _ _, o.same (by simp) (fun k _ hk => ks k hk) h0.1 h1.1 h2.1, h0, h1, h2⟩
  exact ⟨hi.os.trans s.inn.os, hi.tape.trans s.inn.tape, hi.output.trans s.inn.output, Nat.le_trans s.inn.size hi.size, fun k hk ho => (ks k (by omega)).trans (s.inn.block k hk ho)⟩
def lst3 : List ByteArray := [⟨#[]⟩, ⟨#[111, 110, 101]⟩, ⟨#[116, 119, 111]⟩]
theorem lst_size (s : ByteArray) (h : s ∈ lst3) : s.size ≤ 160 := by
  simp [lst3] at h
  rcases h with rfl | rfl | rfl <;> decide
theorem lst_rd (w : World) : RdV (w.alloc (.cells #[.string ⟨#[]⟩, .string ⟨#[111, 110, 101]⟩, .string ⟨#[116, 119, 111]⟩] 9)) (some ⟨w.heap.size, 0, none⟩) 3 (lst3.map Value.string) := by
  have hb := Box.new w #[.string ⟨#[]⟩, .string ⟨#[111, 110, 101]⟩, .string ⟨#[116, 119, 111]⟩] 9
  refine ⟨rfl, fun _ => ⟨w.heap.size, 0, rfl, hb.lt, fun i hi => ?_⟩⟩
  rw [Nat.zero_add, hb.cell i]
  match i, hi with
  | 0, _ => rfl
  | 1, _ => rfl
  | 2, _ => rfl
theorem pick_st {w0 wb w5 w6 W : World} {g r d n c T : Nat} {a la : Option Addr} {zs : List Int} {h : HD} {D : DD} (s : St w0 wb w6 g r d a n c T zs h D) (hW : (W = w6 ∧ la = some ⟨w5.heap.size, 0, none⟩ ∧ RdV w6 (some ⟨w5.heap.size, 0, none⟩) 3 (lst3.map Value.string)) ∨ (W = w6.alloc (.cells #[.string ⟨#[]⟩, .string ⟨#[111, 110, 101]⟩, .string ⟨#[116, 119, 111]⟩] 9) ∧ la = some ⟨w6.heap.size, 0, none⟩)) (hT : T ≤ 1000000) (hr : g < r) (hg : g < d) (h5 : g < w5.heap.size) :
    Calls Try.prog 75 #[.pointer (some ⟨g, 0, none⟩), .slice la 3 3] W fun e w' => (∃ s ∈ lst3, e = .returned (.string s)) ∧ St w0 wb w' g r d a n c (T + 1) zs h D := by
  have h6 : g < w6.heap.size := s.drw.src.lt
  have key : ∀ (W' : World) (la' : Option Addr), St w0 wb W' g r d a n c T zs h D → RdV W' la' 3 (lst3.map Value.string) → (∀ b, ob la' = some b → g < b) → Calls Try.prog 75 #[.pointer (some ⟨g, 0, none⟩), .slice la' 3 3] W' fun e w' => (∃ s ∈ lst3, e = .returned (.string s)) ∧ St w0 wb w' g r d a n c (T + 1) zs h D := fun W' la' sW hr' hb' => by
    refine (c_pick w0 W' g a n c T zs la' 3 3 lst3 sW.drw hT (by omega) hr' hb').mono ?_
    rintro e w' ⟨hs, hd, hi⟩
    exact ⟨hs, sW.next hd hi hr hg⟩
  rcases hW with ⟨rfl, rfl, hrd⟩ | ⟨rfl, rfl⟩
  · exact key _ _ s hrd (fun b e => by have e' : w5.heap.size = b := Option.some.inj e; omega)
  · exact key _ _ (s.below ((Below.refl _ _).alloc (Nat.le_refl _) _)) (lst_rd _) (fun b e => by have e' : w6.heap.size = b := Option.some.inj e; omega)
end Go.Proofs.Ytefbaemcdfmhpaa
