/-
  Where waits lead to, as the specification goes: the mathematics.
-/
import Derived.Test.YtmjacoocnkcilaaDoorLgc
namespace Go.Proofs.YtmjacoocnkcilaaDoor
open Go Go.RowKit
attribute [local go_sem ↓] Go.wp_at_zero Go.wp_at_succ

theorem drop_one (a : Int) : ∀ L : List Int, L.Pairwise (· ≠ ·) → L.length ≤ (L.filter (fun y => decide (y ≠ a))).length + 1
  | [], _ => by simp
  | y :: L, h => by
    obtain ⟨h1, h2⟩ := List.pairwise_cons.1 h
    by_cases e : y = a
    · have hf : L.filter (fun z => decide (z ≠ a)) = L := List.filter_eq_self.2 (fun z hz => by have := h1 z hz; rw [e] at this; simpa using fun h => this h.symm)
      rw [List.filter_cons_of_neg (by simp [e]), hf, List.length_cons]
      exact Nat.le_refl _
    · rw [List.filter_cons_of_pos (by simpa using e), List.length_cons, List.length_cons]
      have := drop_one a L h2
      omega
theorem nodup_le : ∀ (n : Nat) (L : List Int), L.Pairwise (· ≠ ·) → (∀ y ∈ L, 1 ≤ y ∧ y ≤ (n : Int)) → L.length ≤ n
  | 0, L, _, h => by
    cases L with
    | nil => exact Nat.le_refl _
    | cons y L => have := h y (List.mem_cons_self); omega
  | n + 1, L, hp, h => by
    have h1 := drop_one ((n : Int) + 1) L hp
    have h2 := nodup_le n (L.filter (fun y => decide (y ≠ (n : Int) + 1))) (hp.filter _) (fun y hy => by
      obtain ⟨hy1, hy2⟩ := List.mem_filter.1 hy
      have := h y hy1
      have hne : y ≠ (n : Int) + 1 := of_decide_eq_true hy2
      omega)
    omega
structure Sg (ws : List WK) (x : Int) (L : List Int) (i : Nat) : Prop where
  mem : ∀ y ∈ L, y = x ∨ Rch ws x y
  hd : x ∈ L
  nd : L.Pairwise (· ≠ ·)
  shut : ∀ j, j < i → ∀ v ∈ ws, v.x = L.getD j 0 → v.f ≠ x ∧ v.f ∈ L
structure Sk (ws : List WK) (x : Int) (L : List Int) (i k : Nat) : Prop where
  st : Sg ws x L i
  lt : i < L.length
  part : ∀ v ∈ ws.take k, v.x = L.getD i 0 → v.f ≠ x ∧ v.f ∈ L
theorem Sg.begin (ws : List WK) (x : Int) : Sg ws x [x] 0 := ⟨fun y hy => .inl (by simpa using hy), by simp, by simp, fun j hj => by omega⟩
theorem Sg.len {ws : List WK} {x : Int} {L : List Int} {i : Nat} (h : Sg ws x L i) (hall : ws.all okW = true) (hx : 1 ≤ x ∧ x ≤ 60) : L.length ≤ 60 :=
  nodup_le 60 L h.nd (fun y hy => by
    rcases h.mem y hy with e | e
    · rw [e]; exact hx
    · exact rch_pos hall e)
theorem Sg.sk {ws : List WK} {x : Int} {L : List Int} {i : Nat} (h : Sg ws x L i) (hi : i < L.length) : Sk ws x L i 0 := ⟨h, hi, fun v hv => by simp at hv⟩
theorem take_or {ws : List WK} {k : Nat} (hk : k < ws.length) {v : WK} (hv : v ∈ ws.take (k + 1)) : v ∈ ws.take k ∨ v = ws.getD k dW := by
  rw [List.take_add_one, List.mem_append, List.getElem?_eq_getElem hk] at hv
  rcases hv with h | h
  · exact .inl h
  · right
    rw [List.getD_eq_getElem?_getD, List.getElem?_eq_getElem hk]
    simpa using h
theorem getD_app {L : List Int} {j : Nat} (h : j < L.length) (y : Int) : (L ++ [y]).getD j 0 = L.getD j 0 := by
  rw [List.getD_eq_getElem?_getD, List.getD_eq_getElem?_getD, List.getElem?_append_left h]
theorem Sk.skip {ws : List WK} {x : Int} {L : List Int} {i k : Nat} (h : Sk ws x L i k) (hk : k < ws.length) (hn : (ws.getD k dW).x = L.getD i 0 → (ws.getD k dW).f ≠ x ∧ (ws.getD k dW).f ∈ L) : Sk ws x L i (k + 1) :=
  ⟨h.st, h.lt, fun v hv e => by
    rcases take_or hk hv with h1 | h1
    · exact h.part v h1 e
    · rw [h1] at e ⊢; exact hn e⟩
theorem getD_memI {L : List Int} {i : Nat} (h : i < L.length) : L.getD i 0 ∈ L := by rw [List.getD_eq_getElem?_getD, List.getElem?_eq_getElem h]; exact List.getElem_mem h
theorem memW {ws : List WK} {k : Nat} (h : k < ws.length) : ws.getD k dW ∈ ws := by rw [List.getD_eq_getElem?_getD, List.getElem?_eq_getElem h]; exact List.getElem_mem h
theorem Sk.rch {ws : List WK} {x : Int} {L : List Int} {i k : Nat} (h : Sk ws x L i k) (hk : k < ws.length) (e : (ws.getD k dW).x = L.getD i 0) : Rch ws x (ws.getD k dW).f := by
  rcases h.st.mem _ (getD_memI h.lt) with h1 | h1
  · exact .one _ (memW hk) (e.trans h1)
  · exact .step _ _ h1 (memW hk) e
theorem Sk.push {ws : List WK} {x : Int} {L : List Int} {i k : Nat} (h : Sk ws x L i k) (hk : k < ws.length) (e : (ws.getD k dW).x = L.getD i 0) (hx : (ws.getD k dW).f ≠ x) (hn : (ws.getD k dW).f ∉ L) : Sk ws x (L ++ [(ws.getD k dW).f]) i (k + 1) := by
  refine ⟨⟨fun y hy => ?_, List.mem_append_left _ h.st.hd, ?_, fun j hj v hv hj' => ?_⟩, by have := h.lt; simp; omega, fun v hv ev => ?_⟩
  · rcases List.mem_append.1 hy with h1 | h1
    · exact h.st.mem y h1
    · right
      rw [show y = (ws.getD k dW).f by simpa using h1]
      exact h.rch hk e
  · rw [List.pairwise_append]
    refine ⟨h.st.nd, by simp, fun a ha b hb => ?_⟩
    rw [show b = (ws.getD k dW).f by simpa using hb]
    intro e'
    exact hn (e' ▸ ha)
  · rw [getD_app (by have := h.lt; omega)] at hj'
    have := h.st.shut j hj v hv hj'
    exact ⟨this.1, List.mem_append_left _ this.2⟩
  · rw [getD_app h.lt] at ev
    rcases take_or hk hv with h1 | h1
    · have := h.part v h1 ev
      exact ⟨this.1, List.mem_append_left _ this.2⟩
    · rw [h1]; exact ⟨hx, by simp⟩
theorem Sk.next {ws : List WK} {x : Int} {L : List Int} {i : Nat} (h : Sk ws x L i ws.length) : Sg ws x L (i + 1) :=
  ⟨h.st.mem, h.st.hd, h.st.nd, fun j hj v hv e => by
    rcases Nat.lt_or_ge j i with h1 | h1
    · exact h.st.shut j h1 v hv e
    · have : j = i := by omega
      subst this
      exact h.part v (by rw [List.take_length]; exact hv) e⟩
theorem Sg.done {ws : List WK} {x : Int} {L : List Int} (h : Sg ws x L L.length) : ¬ Rch ws x x := by
  have key : ∀ y, y ∈ L → ∀ v ∈ ws, v.x = y → v.f ≠ x ∧ v.f ∈ L := fun y hy v hv e => by
    obtain ⟨j, hj, ej⟩ := List.getElem_of_mem hy
    exact h.shut j hj v hv (by rw [List.getD_eq_getElem?_getD, List.getElem?_eq_getElem hj]; simpa [ej] using e)
  have : ∀ y, Rch ws x y → y ∈ L ∧ y ≠ x := fun y hr => by
    induction hr with
    | one v hv e => exact ⟨(key x h.hd v hv e).2, (key x h.hd v hv e).1⟩
    | step y v _ hv e ih => exact ⟨(key y ih.1 v hv e).2, (key y ih.1 v hv e).1⟩
  exact fun hr => (this x hr).2 rfl
theorem infoI3 : (Tryd.prog.info? 3).map (fun i => (i.zero, i.size, i.bytes)) = some (some (Value.int .i64 0), 1, 8) := by kernel_rfl

end Go.Proofs.YtmjacoocnkcilaaDoor
