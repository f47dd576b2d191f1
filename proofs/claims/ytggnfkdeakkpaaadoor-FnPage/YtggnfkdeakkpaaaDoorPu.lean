/-
  How many records a page has, and the new page: the walks of PageUsed and NewPage.
-/
import Derived.Test.YtggnfkdeakkpaaaDoorPk
namespace Go.Proofs.YtggnfkdeakkpaaaDoor
open Go Go.RowKit
attribute [local go_sem ↓] Go.wp_at_zero Go.wp_at_succ

def emB (s : ByteArray) : Bool := s.toList.isEmpty
def cntS (ss : List ByteArray) (k : Nat) : Nat := ((ss.take k).filter fun s => !emB s).length
theorem cntS_step {ss : List ByteArray} {k : Nat} (hk : k < ss.length) : cntS ss (k + 1) = cntS ss k + (if emB (ss.getD k ⟨#[]⟩) then 0 else 1) := by
  unfold cntS
  rw [List.take_succ_eq_append_getElem hk, List.filter_append, List.length_append, List.getD_eq_getElem?_getD, List.getElem?_eq_getElem hk]
  rw [Option.getD_some]
  cases he : emB ss[k] <;> simp [he]
theorem cntS_le (ss : List ByteArray) (k : Nat) : cntS ss k ≤ k := by
  unfold cntS
  refine Nat.le_trans (List.length_filter_le _ _) ?_
  rw [List.length_take]; omega
theorem cnt_yes {ss : List ByteArray} {k : Nat} (hk : k < ss.length) (h : emB (ss.getD k ⟨#[]⟩) = true) : cntS ss (k + 1) = cntS ss k := by rw [cntS_step hk, h]; rfl
theorem cnt_no {ss : List ByteArray} {k : Nat} (hk : k < ss.length) (h : emB (ss.getD k ⟨#[]⟩) = false) : cntS ss (k + 1) = cntS ss k + 1 := by rw [cntS_step hk, h]; rfl
def usedR (D : DG) : Int := if okG D then (cntS D.S 4 : Nat) else 0
def usedC (D : DG) : Int := if okG D then 0 else 1
theorem used_no {D : DG} (h : okG D = false) : usedR D = 0 ∧ usedC D = 1 := by unfold usedR usedC; rw [h]; exact ⟨rfl, rfl⟩
theorem used_yes {D : DG} (h : okG D = true) : usedR D = (cntS D.S 4 : Nat) ∧ usedC D = 0 := by unfold usedR usedC; rw [h]; exact ⟨rfl, rfl⟩
theorem ret_ii {a b c d : Int} (h1 : a = c) (h2 : b = d) : Ending.returned (.tuple #[.int .i64 a, .int .i64 b]) = .returned (.tuple #[.int .i64 c, .int .i64 d]) := by rw [h1, h2]

def bitI (b : Bool) : Int := if b then 1 else 0
theorem bitI_t : bitI true = 1 := rfl
theorem bitI_f : bitI false = 0 := rfl
set_option maxHeartbeats 2000000 in
theorem c_implUsed (h : HG) (D : DG) (w : World) (r : RdG w h D) (hf : FitG D) :
    Calls Tryd.prog 9 #[.agg #[.int .i64 h.l, .slice h.a h.n h.c]] w fun e w' => e = .returned (.tuple #[.int .i64 (usedR D), .int .i64 (usedC D)]) ∧ Below w.heap.size w w' := by
  have CO : Hid (∀ (W : World), RdG W h D → Calls Tryd.prog 16 #[.agg #[.int .i64 h.l, .slice h.a h.n h.c]] W fun e w' => e = .returned (.bool (okG D)) ∧ Below W.heap.size W w') := fun W hW => c_implOK h D W hW hf
  have RR : Hid (RdG w h D) := r
  have k0 := r.len
  obtain ⟨f0, f1⟩ := hf
  obtain ⟨rl, r0⟩ := r
  obtain ⟨l, a, n, c⟩ := h
  simp only at *
  subst k0 rl
  have R0 : Hid (RdV w a D.S.length (D.S.map Value.string)) := r0
  clear r0 f1
  obtain ⟨V, hV⟩ : ∃ V, w.alloc (.cells #[.int .i64 D.L, .slice a D.S.length c] 25) = V := ⟨_, rfl⟩
  have HB : Hid (Below w.heap.size w V) := by unfold Hid; rw [← hV]; exact (Below.refl _ _).alloc (Nat.le_refl _) _
  have BX : Box V w.heap.size 25 #[.int .i64 D.L, .slice a D.S.length c] := by rw [← hV]; exact Box.new _ _ _
  obtain ⟨v0, v1⟩ := box2 BX
  go_enter Tryd.func9, Tryd.ntmps9
  go_wp2_with fail
  refine (CO.out V (RR.out.below HB.out)).mono ?_
  rintro e w1 ⟨rfl, hb⟩
  have B1 : Hid (Below w.heap.size w w1) := HB.out.trans (hb.mono HB.out.size)
  obtain ⟨x0, x1⟩ := box2 (BX.belowS hb)
  clear hb hV HB BX v0 v1 CO RR
  cases hok : okG D
  · have E : Hid (_ ∧ _) := used_no hok
    clear hok
    go_wp2
    go_ret2
    exact ⟨ret_ii E.out.1.symm E.out.2.symm, B1.out⟩
  · have E : Hid (_ ∧ _) := used_yes hok
    have H1 : Hid (D.S.length = 4) := (okG_parts hok).2.2.1
    obtain ⟨b, off, rfl, _, hc⟩ := (R0.out.below B1.out).2 (by have := H1.out; omega)
    have HC : Hid (∀ i, i < D.S.length → w1.cell? ⟨b, off + i, none⟩ = (D.S.map Value.string)[i]?) := hc
    clear hc hok
    go_wp2
    go_loop [4, 13] (fun m i => ∃ k : Nat, k ≤ D.S.length ∧ i = .int .i64 k ∧ m = .int .i64 (cntS D.S k : Nat)) (fun _ i => D.S.length - (intOf i).toNat)
    case atStart => exact ⟨0, by omega, rfl, rfl⟩
    case round =>
      obtain ⟨k, hk, rfl, rfl⟩ := hrel
      obtain ⟨m, hm⟩ : ∃ m, m = cntS D.S k := ⟨_, rfl⟩
      rw [← hm]
      have hml : m ≤ k := by rw [hm]; exact cntS_le _ _
      have HM : Hid (m = cntS D.S k) := hm
      clear hm
      by_cases hlt : k < D.S.length
      · obtain ⟨x, hx⟩ : ∃ x, x = D.S.getD k ⟨#[]⟩ := ⟨_, rfl⟩
        have hck : w1.cell? ⟨b, off + k, none⟩ = some (.string x) := by rw [hx]; exact at_get HC.out rfl k hlt
        have HX : Hid (x = D.S.getD k ⟨#[]⟩) := hx
        have HL : Hid (k < D.S.length) := hlt
        clear hx
        cases he : x.toList.isEmpty
        · go_wp2
          go_round
          case rel => exact ⟨k + 1, by omega, by go_num, by rw [cnt_no HL.out (by rw [← HX.out]; exact he), ← HM.out]; go_num⟩
          case measure => simp [intOf]; omega
        · go_wp2
          go_round
          case rel => exact ⟨k + 1, by omega, by go_num, by rw [cnt_yes HL.out (by rw [← HX.out]; exact he), ← HM.out]⟩
          case measure => simp [intOf]; omega
      · have e : k = D.S.length := by omega
        have hmm : Hid ((m : Int) = usedR D) := by unfold Hid; rw [E.out.1, HM.out, e, H1.out]
        clear e
        go_wp2
        go_ret2
        exact ⟨ret_ii hmm.out E.out.2.symm, B1.out⟩


end Go.Proofs.YtggnfkdeakkpaaaDoor
