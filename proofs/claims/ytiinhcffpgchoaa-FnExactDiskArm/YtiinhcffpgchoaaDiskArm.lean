/-
  Proved: at every disk and every list of numbers that can be handed in, DiskArm answers as its specification does, disk and code, writes nothing into its arguments, keeps nothing of them, and owns the memory of its answer (FnExactDiskArm returns true); both read afterwards as before. No further condition.
-/
import Derived.Test.YtiinhcffpgchoaaRows
import Derived.Test.YtiinhcffpgchoaaL12
import Derived.Test.YtiinhcffpgchoaaWa
import Derived.Test.YtiinhcffpgchoaaOd
import Derived.WalkKit
import Derived.ProofKit
import Derived.OpenShut
import Derived.ShutString
import Derived.ChangeOld
import Derived.Below
import Derived.Lib.SmallJoins
namespace Go.Proofs.Ytiinhcffpgchoaa.fnExactDiskArm
open Go.ChangeShapes Go.WideShapes Go.ChangeAt Go.RowKit
open Go.ChangeMaps (open_string shut_string)
set_option linter.unusedVariables false

theorem own : ownKnob Try.prog.godebug = none := by kernel_rfl
theorem laidOut : laidOutB Try.prog = true := by kernel_rfl

set_option maxRecDepth 100000 in
theorem lifted (os : Os) (started : os.Started) (H : Type) (enc : TypeId × Value → H) :
    ReturnsInHanded {} Try.checked os 12 .any (Rows.fnExactDiskArmSpec.pre6 enc Try.prog Try.f12 Rows.fnExactDiskArmRow.domain false) (Rows.fnExactDiskArmSpec.post enc Try.prog Try.f12 false true false false) := by
  refine returnsInHanded_of_change (C := Try.checked) own started (by kernel_rfl) Try.func12
    (ChangeSpec.witness6 (enc := enc) (C := Try.checked) false ⟨#[], #[.agg #[.slice none 0 0, .slice none 0 0, .bool false, .slice none 0 0], .slice none 0 0], []⟩ 8 (by kernel_rfl) (by kernel_rfl) (by kernel_rfl) (by kernel_rfl)) ?_
  intro W base args ds gs before hval0 hW hcnd _
  have hval : ∀ (j : Nat) t v, Try.f12.params[j]? = some t → args[j]? = some v → Value.okWide Try.prog W .any base t v := hval0
  have hW' := hW
  obtain ⟨p, q, hA0, hV, rfl, hfz, hnd⟩ := hW
  have hA : DataW.TrodAll enc Try.prog W 0 (fun _ => true) true Try.f12.params.toList args.toList ds p := hA0
  rw [Try.params12] at hA hval
  obtain ⟨v0, vs0, d0, ds0, p0, q0, hargs, rfl, rfl, h0, r0⟩ := trodAll_cons hA
  obtain ⟨v1, vs1, d1, ds1, p1, q1, rfl, rfl, rfl, h1, r1⟩ := trodAll_cons r0
  obtain ⟨rfl, rfl, rfl⟩ := trodAll_nil r1
  obtain rfl : args = #[v0, v1] := by cases args; simp_all
  obtain ⟨rfl, rfl⟩ := trodVars_none hV
  have lt0 : ∀ x ∈ p0, x.block < W.heap.size := by obtain ⟨m, hm⟩ := h0; exact DataW.trod_lt m _ _ _ hm
  have k0 := h0
  have lt1 : ∀ x ∈ p1, x.block < W.heap.size := by obtain ⟨m, hm⟩ := h1; exact DataW.trod_lt m _ _ _ hm
  have k1 := h1
  obtain ⟨hh, dd, rfl, rr, m0, m1, m2, s0, s1⟩ := open_disk (hval 0 50 v0 rfl rfl) h0
  obtain ⟨ka, kn, kc, rfl⟩ := okWide_slice Try.underlying25 (hval 1 25 v1 rfl rfl)
  obtain ⟨kz, kr, km⟩ : ∃ zs : List Int, RdV W ka kn (zs.map (Value.int .i64)) ∧ kn ≤ maxLen := by
    obtain ⟨fuel, hf⟩ := h1
    obtain ⟨a', n', c', zs, e, r, m⟩ := open_numbers hf
    simp at e
    obtain ⟨rfl, rfl, rfl⟩ := e
    exact ⟨zs, r, m⟩
  clear hA0 hval0
  refine (law12 hh dd ka kn kc kz (armR dd kz) (armC dd kz) W rr kr km m0 m1 m2 s0 s1 (fun hf _ => arm_fit hf) (fun hf hk => c_specArm2 dd kz kn hf hk) (fun hf hk => c_implArm2 dd kz kn hf hk)).mono fun e W' ⟨he, bel⟩ => ?_
  subst he
  exact ⟨_, rfl, _, _, _, [], _, [], hW', trodAll_mk1 (shut_bool Try.underlying4 _), (trodAll_cons_mk (Below.trod laidOut (by kernel_rfl) (of_decide_eq_true (by kernel_rfl)) k0 bel lt0) (trodAll_cons_mk (Below.trod laidOut (by kernel_rfl) (of_decide_eq_true (by kernel_rfl)) k1 bel lt1) trodAll_mk0)), rfl, bel.frame _, fun h => by cases h⟩

theorem over : Rows.fnExactDiskArmRow.holds Try.pinned (OpenSpec.ofChange Rows.fnExactDiskArmSpec) :=
  OpenClaim.holds_of_wide 12 Try.f12 rfl rfl rfl rfl rfl rfl rfl ⟨rfl, rfl, rfl, rfl, rfl⟩ rfl rfl rfl rfl rfl (by kernel_rfl) Try.func12 (by kernel_rfl)
    (of_decide_eq_true (by kernel_rfl)) (by unfold Func.isWrapper; first | (rw [if_pos (by decide +kernel)]; kernel_rfl) | (rw [if_neg (by decide +kernel)]; exact ⟨rfl, rfl⟩))
    (fun os started H enc _ => lifted os started H enc)
end Go.Proofs.Ytiinhcffpgchoaa.fnExactDiskArm
namespace Go.Proofs.Ytiinhcffpgchoaa
theorem diskArm_holds : Rows.FnExactDiskArmSaid := fnExactDiskArm.over
#print axioms diskArm_holds
end Go.Proofs.Ytiinhcffpgchoaa
