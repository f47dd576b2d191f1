/-
  What page bytes say: the walk of the program's pageOf.
-/
import Derived.Test.YtpomedfofnceeaaDoorRu
import Derived.Test.YtpomedfofnceeaaDoorFm
import Derived.Test.YtpomedfofnceeaaDoorGk
import Derived.Laws.StructEq
namespace Go.Proofs.YtpomedfofnceeaaDoor.G
open Go Go.RowKit
attribute [local go_sem ↓] Go.wp_at_zero Go.wp_at_succ


def lsnZ (x : List Int) : Int := x.getD 2 0 * 256 + x.getD 3 0
def rpD (no : Int) (x : List Int) : Option DG :=
  if x.length < 4 then none else if x.getD 0 0 = 112 ∧ x.getD 1 0 = no then (match okR (x.drop 4) with
    | none => none
    | some l => if okG ⟨lsnZ x, l⟩ then some ⟨lsnZ x, l⟩ else none) else none
theorem rp_lo {no : Int} {x : List Int} (h : x.length < 4) : rpD no x = none := by unfold rpD; rw [if_pos h]
theorem rp_mark {no : Int} {x : List Int} (h : ¬ (x.getD 0 0 = 112 ∧ x.getD 1 0 = no)) : rpD no x = none := by unfold rpD; rw [if_neg h]; split <;> rfl
theorem rp_form {no : Int} {x : List Int} (h : okR (x.drop 4) = none) : rpD no x = none := by unfold rpD; rw [h]; split; rfl; split <;> rfl
theorem rp_bad {no : Int} {x : List Int} {l : List ByteArray} (h : okR (x.drop 4) = some l) (h1 : okG ⟨lsnZ x, l⟩ = false) : rpD no x = none := by
  unfold rpD; rw [h]; simp only [h1]; split; rfl; split <;> rfl
theorem rp_yes {no : Int} {x : List Int} {l : List ByteArray} (h0 : ¬ x.length < 4) (hm : x.getD 0 0 = 112 ∧ x.getD 1 0 = no) (h : okR (x.drop 4) = some l) (h1 : okG ⟨lsnZ x, l⟩ = true) : rpD no x = some ⟨lsnZ x, l⟩ := by
  unfold rpD; rw [if_neg h0, if_pos hm, h]; simp only [h1, if_true]
theorem okR_of {zs : List Int} (hl : ¬ 65536 < zs.length) : (errR zs = 0 ∧ okR zs = some (resR zs)) ∨ (errR zs = 3 ∧ okR zs = none ∧ resR zs = []) := by
  cases ho : okR zs with
  | none => exact .inr ⟨(ansR3 hl ho).1, rfl, (ansR3 hl ho).2⟩
  | some l => exact .inl ⟨(ansR0 hl ho).1, by rw [(ansR0 hl ho).2]⟩
theorem eqMark (W : World) (x0 x1 y0 y1 : Int) : (Op.equalIn 10000 182 (.agg #[.int .u8 x0, .int .i64 x1]) (.agg #[.int .u8 y0, .int .i64 y1])).run Tryd.prog W = .ok (x0 == y0 && x1 == y1) W := by
  rw [run_equalIn_agg W 9999 182 _ _ (by kernel_rfl) (by kernel_rfl)]
  have hf : (Tryd.prog.fieldsOf 182).toList.map (fun f => (f.name, f.type, f.offset)) = [("letter", 5, 0), ("no", 3, 1)] := by kernel_rfl
  generalize (Tryd.prog.fieldsOf 182).toList = fs at hf
  have hl : fs.length = 2 := by simpa using congrArg List.length hf
  obtain ⟨f0, f1, rfl⟩ : ∃ f0 f1, fs = [f0, f1] := by
    rcases fs with _ | ⟨f0, _ | ⟨f1, _ | ⟨f2, r⟩⟩⟩
    · simp at hl
    · simp at hl
    · exact ⟨f0, f1, rfl⟩
    · simp at hl
  simp only [List.map_cons, List.map_nil, List.cons.injEq, Prod.mk.injEq, and_true] at hf
  obtain ⟨⟨n0, e0, o0⟩, n1, e1, o1⟩ := hf
  cases h0 : (x0 == y0) <;> cases h1 : (x1 == y1)
  all_goals simp [Op.eqFields, part, go_sem, n0, e0, o0, n1, e1, o1, h0, h1]

end Go.Proofs.YtpomedfofnceeaaDoor.G
