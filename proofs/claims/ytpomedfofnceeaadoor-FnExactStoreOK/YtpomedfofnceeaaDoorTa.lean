/-
  Records that are read: what the bytes say; results of ten cells.
-/
import Derived.Test.YtpomedfofnceeaaDoorRb
import Derived.Test.YtpomedfofnceeaaDoorRu
namespace Go.Proofs.YtpomedfofnceeaaDoor
open Go Go.RowKit
attribute [local go_sem ↓] Go.wp_at_zero Go.wp_at_succ


def numD (x : List Int) (b a : ByteArray) : DR := ⟨x.getD 1 0, x.getD 2 0, x.getD 3 0, x.getD 4 0, x.getD 5 0, x.getD 6 0, x.getD 7 0, x.getD 8 0, b, a⟩
def rrD (x : List Int) : Option DR :=
  if x.length < 9 then none else if x.getD 0 0 = 108 then
    (match okR (x.drop 9) with
      | some [b, a] => if okLR (numD x b a) then some (numD x b a) else none
      | _ => none)
  else none
theorem rr_lo {x : List Int} (h : x.length < 9) : rrD x = none := by unfold rrD; rw [if_pos h]
theorem rr_mark {x : List Int} (h : ¬ x.getD 0 0 = 108) : rrD x = none := by unfold rrD; rw [if_neg h]; split <;> rfl
theorem rr_form {x : List Int} (h : okR (x.drop 9) = none) : rrD x = none := by unfold rrD; rw [h]; split <;> (try split) <;> rfl
theorem rr_two {x : List Int} {l : List ByteArray} (h : okR (x.drop 9) = some l) (hl : l.length ≠ 2) : rrD x = none := by
  unfold rrD
  rw [h]
  rcases l with _ | ⟨a, _ | ⟨b, _ | ⟨c, r⟩⟩⟩
  · split <;> (try split) <;> rfl
  · split <;> (try split) <;> rfl
  · simp at hl
  · split <;> (try split) <;> rfl
theorem rr_at {x : List Int} {b a : ByteArray} (h9 : ¬ x.length < 9) (h0 : x.getD 0 0 = 108) (h : okR (x.drop 9) = some [b, a]) : rrD x = if okLR (numD x b a) then some (numD x b a) else none := by
  unfold rrD
  rw [if_neg h9, if_pos h0, h]
theorem rd_sizes : ∀ (c : Nat) (zr : List Int) (l : List ByteArray), (∀ z ∈ zr, 0 ≤ z ∧ z < 256) → rd c zr = some l → ∀ s ∈ l, s.size ≤ 255
  | 0, zr, l, _, h => by
    rw [rd_done] at h
    split at h
    · cases h; intro s hs; cases hs
    · cases h
  | c + 1, [], l, _, h => by rw [rd_none (by omega) rfl] at h; cases h
  | c + 1, z :: r, l, hz, h => by
    by_cases hl : r.length < z.toNat
    · rw [rd_short (by omega) hl] at h; cases h
    · rw [rd_step hl] at h
      cases hr : rd c (r.drop z.toNat) with
      | none => rw [hr] at h; cases h
      | some l' =>
        rw [hr] at h
        simp only [Option.map_some, Option.some.injEq] at h
        subst h
        intro s hs
        rcases List.mem_cons.1 hs with rfl | hs
        · rw [strOfNums_size, List.length_take]
          have := hz z (by simp)
          omega
        · exact rd_sizes c (r.drop z.toNat) l' (fun y hy => hz y (List.mem_cons_of_mem _ (List.mem_of_mem_drop hy))) hr s hs
theorem okR_sizes {zs : List Int} {l : List ByteArray} (hz : ∀ z ∈ zs, 0 ≤ z ∧ z < 256) (h : okR zs = some l) : ∀ s ∈ l, s.size ≤ 255 := by
  unfold okR at h
  split at h
  · cases h
  · split at h
    · cases h
    · exact rd_sizes _ _ _ (fun y hy => hz y (List.mem_cons_of_mem _ hy)) h
theorem loadVarR {w : World} {r : Nat} {D : DR} (hb : Box w r 75 (agR D)) : (loadVar 75 ⟨r, 0, none⟩).run Tryd.prog w = .ok (.agg (agR D)) w := by
  obtain ⟨e0, e1, e2, e3, e4, e5, e6, e7, e8, e9⟩ := box10 hb
  simp [go_sem, e0, e1, e2, e3, e4, e5, e6, e7, e8, e9, agR]
theorem retR2 {fn : Func} {p u : Tmp} (h : fn.results = #[.cell p 75, .tmp u]) {R : Ending → World → Prop} {a : Act} {w : World} {r : Nat} {D : DR} {v : Value} (hp : a.tmps.getD p undef = .pointer (some ⟨r, 0, none⟩)) (hu : a.tmps.getD u undef = v) (hd : a.defers = []) (hb : Box w r 75 (agR D)) (hR : R (.returned (.tuple #[.agg (agR D), v])) w) : bodyPost Tryd.prog fn R .ret a w := by
  refine bodyPost_ret ?_ hd hR
  have hp' : a.tmps[p]?.getD undef = .pointer (some ⟨r, 0, none⟩) := by simpa using hp
  have hu' : a.tmps[u]?.getD undef = v := by simpa using hu
  simp only [results, h]
  simp [Result.andThen, hp', hu', asAddr, loadVarR hb]
def put10 (V : World) (r : Nat) (D : DR) : World := (((((((((V.setCell ⟨r, 0, none⟩ (.int .i64 D.e)).setCell ⟨r, 1, none⟩ (.int .i64 D.l)).setCell ⟨r, 2, none⟩ (.int .i64 D.t)).setCell ⟨r, 3, none⟩ (.int .i64 D.k)).setCell ⟨r, 4, none⟩ (.int .i64 D.p)).setCell ⟨r, 5, none⟩ (.int .i64 D.n)).setCell ⟨r, 6, none⟩ (.int .i64 D.g)).setCell ⟨r, 7, none⟩ (.int .i64 D.s)).setCell ⟨r, 8, none⟩ (.string D.b)).setCell ⟨r, 9, none⟩ (.string D.a)
theorem put10_box {V : World} {r : Nat} {t : TypeId} {D0 : DR} (h : Box V r t (agR D0)) (D : DR) : Box (put10 V r D) r t (agR D) := by
  have := (((((((((h.set 0 (.int .i64 D.e)).set 1 (.int .i64 D.l)).set 2 (.int .i64 D.t)).set 3 (.int .i64 D.k)).set 4 (.int .i64 D.p)).set 5 (.int .i64 D.n)).set 6 (.int .i64 D.g)).set 7 (.int .i64 D.s)).set 8 (.string D.b)).set 9 (.string D.a)
  simpa [agR, put10] using this
theorem put10_below {B : Nat} {w V : World} (hb : Below B w V) {r : Nat} (hr : B ≤ r) (D : DR) : Below B w (put10 V r D) :=
  (((((((((hb.setCell hr _).setCell hr _).setCell hr _).setCell hr _).setCell hr _).setCell hr _).setCell hr _).setCell hr _).setCell hr _).setCell hr _
theorem thaw10 {w : World} {r : Nat} {t : TypeId} {c : Array Value} (h : Box w r t c) : w.frozen? ⟨r, 0, none⟩ = false ∧ w.frozen? ⟨r, 1, none⟩ = false ∧ w.frozen? ⟨r, 2, none⟩ = false ∧ w.frozen? ⟨r, 3, none⟩ = false ∧ w.frozen? ⟨r, 4, none⟩ = false ∧ w.frozen? ⟨r, 5, none⟩ = false ∧ w.frozen? ⟨r, 6, none⟩ = false ∧ w.frozen? ⟨r, 7, none⟩ = false ∧ w.frozen? ⟨r, 8, none⟩ = false ∧ w.frozen? ⟨r, 9, none⟩ = false :=
  ⟨h.thaw 0, h.thaw 1, h.thaw 2, h.thaw 3, h.thaw 4, h.thaw 5, h.thaw 6, h.thaw 7, h.thaw 8, h.thaw 9⟩

end Go.Proofs.YtpomedfofnceeaaDoor
