/-
  TreeOK and TreeDepth, of the program and of the specification.
-/
import Derived.Test.YthnggpjgajkaeaaMj
namespace Go.Proofs.Ythnggpjgajkaeaa
open Go Go.RowKit
attribute [local go_sem ↓] Go.wp_at_zero Go.wp_at_succ

set_option maxRecDepth 100000 in
set_option maxHeartbeats 8000000 in
theorem c_specOK (ro : Int) (la : Option Addr) (ln lc : Nat) (vs : List TNode) (w : World) (hr : RdN w la ln vs) (hn : ln ≤ 1048576) (hf : ∀ i, i < ln → FitN (vs.getD i zeroN)) (hnil : ∀ i, i < ln → (vs.getD i zeroN).ka = none → (vs.getD i zeroN).kc = 0) :
    Calls Try.prog 28 #[.agg #[.int .i64 ro, .slice la ln lc]] w fun e w' => AnsP (TG (vs.map saysN) ro) e ∧ Below w.heap.size w w' := by
  obtain ⟨V, hV⟩ : ∃ Q, w.alloc (.cells #[.int .i64 ro, .slice la ln lc] 27) = Q := ⟨_, rfl⟩
  have bV : Below w.heap.size w V := by rw [← hV]; exact (Below.refl _ _).alloc (Nat.le_refl _) _
  have XV : Hid (Box V w.heap.size 27 #[.int .i64 ro, .slice la ln lc]) := by unfold Hid; rw [← hV]; exact Box.new _ _ _
  have x0 : V.cell? ⟨w.heap.size, 0, none⟩ = some (.int .i64 ro) := XV.out.cell 0
  have x1 : V.cell? ⟨w.heap.size, 1, none⟩ = some (.slice la ln lc) := XV.out.cell 1
  have BV : Hid (Below w.heap.size w V) := bV
  have C := c_l09Walk ro la ln lc vs V (hr.below bV) hn hf hnil
  clear hr hf hnil bV
  go_enter Try.func28, Try.ntmps28
  go_wp2_with fail
  refine C.mono ?_
  rintro e w1 ⟨ya, n, yc, K, d, okb, rfl, _, _, _, h1, _, hb1⟩
  have H1 : Hid (okb = true ↔ TG (vs.map saysN) ro) := h1
  have B1 : Hid (Below w.heap.size w w1) := BV.out.trans (hb1.mono BV.out.size)
  clear h1 hb1 C hV x0 x1
  go_wp2
  go_ret
  exact ⟨AnsP.of H1.out, B1.out⟩
/-- The depth that is told, and its code. -/
def DepIs (L : List ND) (ro : Int) (d : Nat) (c : Int) : Prop := (∃ ks f, TGood L ro ks f d ∧ c = 0) ∨ (¬ TG L ro ∧ d = 0 ∧ c = 1)
theorem DepIs.uniq {L : List ND} {ro : Int} {d d' : Nat} {c c' : Int} (h : DepIs L ro d c) (h' : DepIs L ro d' c') : d' = d ∧ c' = c := by
  rcases h with ⟨ks, f, g, rfl⟩ | ⟨hn, rfl, rfl⟩
  · rcases h' with ⟨ks', f', g', rfl⟩ | ⟨hn, _⟩
    · obtain ⟨m', hc, _⟩ := g.climb
      obtain ⟨rfl, _, _⟩ := TG_same hc g'
      exact ⟨lvT_uniq g'.lev g.lev, rfl⟩
    · exact absurd ⟨ks, f, d, g⟩ hn
  · rcases h' with ⟨ks', f', g', rfl⟩ | ⟨_, rfl, rfl⟩
    · exact absurd ⟨ks', f', d', g'⟩ hn
    · exact ⟨rfl, rfl⟩
def AnsD (L : List ND) (ro : Int) (e : Ending) : Prop := ∃ (d : Nat) (c : Int), e = .returned (.tuple #[.int .i64 d, .int .i64 c]) ∧ DepIs L ro d c
set_option maxRecDepth 100000 in
set_option maxHeartbeats 8000000 in
theorem c_specDepth (ro : Int) (la : Option Addr) (ln lc : Nat) (vs : List TNode) (w : World) (hr : RdN w la ln vs) (hn : ln ≤ 1048576) (hf : ∀ i, i < ln → FitN (vs.getD i zeroN)) (hnil : ∀ i, i < ln → (vs.getD i zeroN).ka = none → (vs.getD i zeroN).kc = 0) :
    Calls Try.prog 36 #[.agg #[.int .i64 ro, .slice la ln lc]] w fun e w' => AnsD (vs.map saysN) ro e ∧ Below w.heap.size w w' := by
  obtain ⟨V, hV⟩ : ∃ Q, w.alloc (.cells #[.int .i64 ro, .slice la ln lc] 27) = Q := ⟨_, rfl⟩
  have bV : Below w.heap.size w V := by rw [← hV]; exact (Below.refl _ _).alloc (Nat.le_refl _) _
  have XV : Hid (Box V w.heap.size 27 #[.int .i64 ro, .slice la ln lc]) := by unfold Hid; rw [← hV]; exact Box.new _ _ _
  have x0 : V.cell? ⟨w.heap.size, 0, none⟩ = some (.int .i64 ro) := XV.out.cell 0
  have x1 : V.cell? ⟨w.heap.size, 1, none⟩ = some (.slice la ln lc) := XV.out.cell 1
  have BV : Hid (Below w.heap.size w V) := bV
  have C := c_l09Walk ro la ln lc vs V (hr.below bV) hn hf hnil
  clear hr hf hnil bV
  go_enter Try.func36, Try.ntmps36
  go_wp2_with fail
  refine C.mono ?_
  rintro e w1 ⟨ya, n, yc, K, d, okb, rfl, _, _, _, h1, h2, hb1⟩
  have H1 : Hid (okb = true ↔ TG (vs.map saysN) ro) := h1
  have H2 : Hid (okb = true → ∃ ks f, TGood (vs.map saysN) ro ks f d ∧ K = allT ks f) := h2
  have B1 : Hid (Below w.heap.size w w1) := BV.out.trans (hb1.mono BV.out.size)
  clear h1 h2 hb1 C hV x0 x1
  cases okb
  · have E : Hid (AnsD (vs.map saysN) ro (.returned (.tuple #[.int .i64 ((0 : Nat) : Int), .int .i64 1]))) := ⟨0, 1, rfl, .inr ⟨fun h => (by have := H1.out.2 h; cases this), rfl, rfl⟩⟩
    clear H1 H2
    go_wp2
    go_ret2
    exact ⟨E.out, B1.out⟩
  · have E : Hid (AnsD (vs.map saysN) ro (.returned (.tuple #[.int .i64 d, .int .i64 0]))) := by
      obtain ⟨ks, f, g, _⟩ := H2.out rfl
      exact ⟨d, 0, rfl, .inl ⟨ks, f, g, rfl⟩⟩
    clear H1 H2
    go_wp2
    go_ret2
    exact ⟨E.out, B1.out⟩
theorem TGood.size {L : List ND} {ro : Int} {ks : List ByteArray} {f : Fo} {d : Nat} (g : TGood L ro ks f d) : f.sz < 201 ∧ f.wf ∧ ks.length ≤ 4 ∧ (f.len = 0 ∨ f.len = ks.length + 1) := by
  obtain ⟨m', hc, _⟩ := g.climb
  have q := C1_sz hc
  have q3 := C1_wf hc
  rw [cnt_rep] at q
  rw [← g.root] at q3
  exact ⟨by have := g.few; omega, q3⟩
set_option maxRecDepth 100000 in
set_option maxHeartbeats 8000000 in
theorem c_implDepth (ro : Int) (la : Option Addr) (ln lc : Nat) (vs : List TNode) (w : World) (hr : RdN w la ln vs) (hn : ln ≤ 1048576) (hf : ∀ i, i < ln → FitN (vs.getD i zeroN)) (hnil : ∀ i, i < ln → (vs.getD i zeroN).ka = none → (vs.getD i zeroN).kc = 0) :
    Calls Try.prog 22 #[.agg #[.int .i64 ro, .slice la ln lc]] w fun e w' => AnsD (vs.map saysN) ro e ∧ Below w.heap.size w w' := by
  obtain ⟨V, hV⟩ : ∃ Q, w.alloc (.cells #[.int .i64 ro, .slice la ln lc] 27) = Q := ⟨_, rfl⟩
  have bV : Below w.heap.size w V := by rw [← hV]; exact (Below.refl _ _).alloc (Nat.le_refl _) _
  have XV : Hid (Box V w.heap.size 27 #[.int .i64 ro, .slice la ln lc]) := by unfold Hid; rw [← hV]; exact Box.new _ _ _
  have x0 : V.cell? ⟨w.heap.size, 0, none⟩ = some (.int .i64 ro) := XV.out.cell 0
  have x1 : V.cell? ⟨w.heap.size, 1, none⟩ = some (.slice la ln lc) := XV.out.cell 1
  have BV : Hid (Below w.heap.size w V) := bV
  have C := c_rootOf ro la ln lc vs V (hr.below bV) hn hf hnil
  clear hr hf hnil bV
  go_enter Try.func22, Try.ntmps22
  go_wp2_with fail
  refine C.mono ?_
  rintro e w1 ⟨hans, hb1⟩
  have B1 : Hid (Below w.heap.size w w1) := BV.out.trans (hb1.mono BV.out.size)
  clear hb1 C hV x0 x1
  rcases hans with ⟨rfl, hno⟩ | ⟨p, ks, f, d, A, rfl, hg, hrd⟩
  · have E : Hid (AnsD (vs.map saysN) ro (.returned (.tuple #[.int .i64 ((0 : Nat) : Int), .int .i64 1]))) := ⟨0, 1, rfl, .inr ⟨hno, rfl, rfl⟩⟩
    clear hno
    go_wp2
    go_ret2
    exact ⟨E.out, B1.out⟩
  · have q := hg.size
    have CL1 := c_levels 201 (by omega) f ks A p w1 q.1 hrd q.2.1 (len_le4 q.2.2.1 q.2.2.2)
    have HG : Hid (TGood (vs.map saysN) ro ks f d) := hg
    clear hg hrd q
    go_wp2_with fail
    refine CL1.mono ?_
    rintro e w' ⟨⟨n, rfl, hn201, hlv⟩, hq⟩; have hq' := hq.symm; subst hq'; clear hq CL1
    have E : Hid (AnsD (vs.map saysN) ro (.returned (.tuple #[.int .i64 n, .int .i64 0]))) := ⟨n, 0, rfl, .inl ⟨ks, f, by have := (hlv d).1 HG.out.lev; rw [this.1]; exact HG.out, rfl⟩⟩
    clear hlv HG
    go_wp2
    go_ret2
    exact ⟨E.out, B1.out⟩

end Go.Proofs.Ythnggpjgajkaeaa
