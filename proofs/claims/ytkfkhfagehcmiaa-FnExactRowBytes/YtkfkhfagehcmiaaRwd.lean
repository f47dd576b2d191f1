/-
  The bytes of a row, on both sides.
-/
import Derived.Test.YtkfkhfagehcmiaaRwc
import Derived.Deep.QuietTactic
import Derived.BigQuiet
import Derived.Laws.IdiomStrings
namespace Go.Proofs.Ytkfkhfagehcmiaa
open Go Go.RowKit
attribute [local go_sem ↓] Go.wp_at_zero Go.wp_at_succ

def vsR (b i : Int) (u v : VV) : List VV := [(1, b, ⟨#[]⟩), (1, i, ⟨#[]⟩), u, v]
def errB (b i : Int) (u v : VV) : Int := if rowB i u v = false then 1 else if inB b 1 3 = false then 4 else 0
def resB (b i : Int) (u v : VV) : List Int := if errB b i u v = 0 then kbZ (vsR b i u v) 4 else []
theorem errB1 {b i : Int} {u v : VV} (h : rowB i u v = false) : errB b i u v = 1 ∧ resB b i u v = [] := by
  have e : errB b i u v = 1 := by unfold errB; rw [if_pos h]
  exact ⟨e, by unfold resB; rw [e]; rfl⟩
theorem errB4 {b i : Int} {u v : VV} (h : rowB i u v = true) (h2 : inB b 1 3 = false) : errB b i u v = 4 ∧ resB b i u v = [] := by
  have e : errB b i u v = 4 := by unfold errB; rw [h, if_neg (by decide), if_pos h2]
  exact ⟨e, by unfold resB; rw [e]; rfl⟩
theorem errB0 {b i : Int} {u v : VV} (h : rowB i u v = true) (h2 : inB b 1 3 = true) : errB b i u v = 0 ∧ resB b i u v = kbZ (vsR b i u v) 4 := by
  have e : errB b i u v = 0 := by unfold errB; rw [h, h2]; rfl
  exact ⟨e, by unfold resB; rw [if_pos e]⟩
def AnsB (w : World) (b i : Int) (u v : VV) (e : Ending) (w' : World) : Prop :=
  (∃ a cap, e = .returned (.tuple #[.slice a (resB b i u v).length cap, .int .i64 (errB b i u v)]) ∧ w'.ownsRow w.heap.size 5 1 (.slice a (resB b i u v).length cap) (resB b i u v).length ((resB b i u v).map (Value.int .u8))) ∧ Below w.heap.size w w'
theorem ansB_nil {w w' : World} {b i : Int} {u v : VV} {c : Int} (h : errB b i u v = c ∧ resB b i u v = []) (hb : Below w.heap.size w w') : AnsB w b i u v (.returned (.tuple #[.slice none 0 0, .int .i64 c])) w' := by
  unfold AnsB
  rw [h.1, h.2]
  exact ⟨⟨none, 0, rfl, World.ownsRow_nil _ _ _ _⟩, hb⟩
theorem ansB_empty {w w1 : World} {b i : Int} {u v : VV} {c : Int} (h : errB b i u v = c ∧ resB b i u v = []) (hb : Below w.heap.size w w1) : AnsB w b i u v (.returned (.tuple #[.slice (some ⟨w1.heap.size, 0, none⟩) 0 0, .int .i64 c])) (w1.alloc (.cells #[] 5)) := by
  unfold AnsB
  rw [h.1, h.2]
  exact ⟨⟨_, 0, rfl, World.ownsRow_lit w1 #[] 0 hb.size (Nat.zero_le _) rfl⟩, hb.alloc hb.size _⟩
theorem row_parts {i : Int} {u v : VV} (h : rowB i u v = true) : inB i 0 1000 = true ∧ okV u = true ∧ okV v = true ∧ ¬ u.1 = 2 ∧ ¬ v.1 = 1 := by
  unfold rowB at h
  simp only [Bool.and_eq_true, Bool.not_eq_true', decide_eq_false_iff_not] at h
  exact ⟨h.1.1.1.1, h.1.1.1.2, h.1.1.2, h.1.2, h.2⟩
theorem num_ok {n : Int} (h0 : 0 ≤ n) (h1 : n ≤ 1000) : okV (1, n, ⟨#[]⟩) = true := by
  show valB 1 n ⟨#[]⟩ = true
  rw [val1, inB_iff.2 ⟨by omega, by omega⟩]
  simp
theorem all_vsR {b i : Int} {u v : VV} (h : rowB i u v = true) (h2 : inB b 1 3 = true) : allV (vsR b i u v) 4 = true := by
  obtain ⟨g0, g1, g2, _, _⟩ := row_parts h
  have hi := inB_iff.1 g0
  have hb := inB_iff.1 h2
  unfold allV vsR
  simp [g1, g2, num_ok (n := b) (by omega) (by omega), num_ok (n := i) hi.1 hi.2]
theorem rd_vsR (w : World) (b i : Int) (u v : VV) : RdC (w.alloc (.cells #[.int .i64 1, .int .i64 b, .string ⟨#[]⟩, .int .i64 1, .int .i64 i, .string ⟨#[]⟩, .int .i64 u.1, .int .i64 u.2.1, .string u.2.2, .int .i64 v.1, .int .i64 v.2.1, .string v.2.2] 25)) (some ⟨w.heap.size, 0, none⟩) 4 (vsR b i u v) :=
  RdC.own (base := w.heap.size) (e := 25) (n := 4) (cap := 4) (World.ownsRow_lit w #[.int .i64 1, .int .i64 b, .string ⟨#[]⟩, .int .i64 1, .int .i64 i, .string ⟨#[]⟩, .int .i64 u.1, .int .i64 u.2.1, .string u.2.2, .int .i64 v.1, .int .i64 v.2.1, .string v.2.2] 4 (Nat.le_refl _) (by unfold maxLen; omega) rfl)
set_option maxRecDepth 100000 in
set_option maxHeartbeats 4000000 in
theorem c_implRB (b i : Int) (u v : VV) (w : World) (h1 : u.2.2.size ≤ 1048576) (h2 : v.2.2.size ≤ 1048576) :
    Calls Try.prog 40 #[.int .i64 b, .agg #[.int .i64 i, .int .i64 u.1, .int .i64 u.2.1, .string u.2.2, .int .i64 v.1, .int .i64 v.2.1, .string v.2.2]] w (AnsB w b i u v) := by
  obtain ⟨V, hV⟩ : ∃ V, w.alloc (.cells #[.int .i64 i, .int .i64 u.1, .int .i64 u.2.1, .string u.2.2, .int .i64 v.1, .int .i64 v.2.1, .string v.2.2] 59) = V := ⟨_, rfl⟩
  have BV : Hid (Below w.heap.size w V) := by unfold Hid; rw [← hV]; exact (Below.refl _ _).alloc (Nat.le_refl _) _
  have X : Hid (Box V w.heap.size 59 #[.int .i64 i, .int .i64 u.1, .int .i64 u.2.1, .string u.2.2, .int .i64 v.1, .int .i64 v.2.1, .string v.2.2]) := by unfold Hid; rw [← hV]; exact Box.new _ _ _
  obtain ⟨x0, x1, x2, x3, x4, x5, x6⟩ := box7 X.out
  obtain ⟨p0, g0⟩ : ∃ p, rowB i u v = p := ⟨_, rfl⟩
  obtain ⟨p1, g1⟩ : ∃ p, inB b 1 3 = p := ⟨_, rfl⟩
  have C0 : Hid (∀ W : World, Calls Try.prog 64 #[.agg #[.int .i64 i, .int .i64 u.1, .int .i64 u.2.1, .string u.2.2, .int .i64 v.1, .int .i64 v.2.1, .string v.2.2]] W fun e w' => e = .returned (.bool p0) ∧ Below W.heap.size W w') := fun W => by rw [← g0]; exact c_isRow i u v W (by unfold maxLen; omega) (by unfold maxLen; omega)
  have C1 : Hid (∀ W : World, Calls Try.prog 65 #[.int .i64 b] W fun e w' => e = .returned (.bool p1) ∧ w' = W) := fun W => by rw [← g1]; exact c_isTable b W
  have G0 : Hid (rowB i u v = p0) := g0
  have G1 : Hid (inB b 1 3 = p1) := g1
  have HS : Hid (∀ x ∈ vsR b i u v, x.2.2.size ≤ 1048576) := fun x hx => by
    unfold vsR at hx
    simp only [List.mem_cons, List.not_mem_nil, or_false] at hx
    rcases hx with rfl | rfl | rfl | rfl
    · exact Nat.zero_le _
    · exact Nat.zero_le _
    · exact h1
    · exact h2
  clear g0 g1 h1 h2
  go_enter Try.func40, Try.ntmps40
  go_wp2_with fail
  refine (C0.out _).mono ?_
  rintro e w1 ⟨rfl, hb⟩
  have Bw1 : Hid (Below w.heap.size w w1) := BV.out.trans (hb.mono BV.out.size)
  have Xw1 : Hid (Box w1 w.heap.size 59 #[.int .i64 i, .int .i64 u.1, .int .i64 u.2.1, .string u.2.2, .int .i64 v.1, .int .i64 v.2.1, .string v.2.2]) := X.out.belowS hb
  clear hb x0 x1 x2 x3 x4 x5 x6 hV
  obtain ⟨x0, x1, x2, x3, x4, x5, x6⟩ := box7 Xw1.out
  cases p0
  · have E : Hid (errB b i u v = 1 ∧ resB b i u v = []) := errB1 G0.out
    clear C0 C1
    go_wp2
    go_ret2
    exact ansB_nil E.out Bw1.out
  go_wp2_with fail
  refine (C1.out _).mono ?_
  rintro e w2 ⟨rfl, hw⟩
  rw [hw]
  clear hw
  cases p1
  · have E : Hid (errB b i u v = 4 ∧ resB b i u v = []) := errB4 G0.out G1.out
    clear C0 C1
    go_wp2
    go_ret2
    exact ansB_nil E.out Bw1.out
  have E : Hid (errB b i u v = 0 ∧ resB b i u v = kbZ (vsR b i u v) 4) := errB0 G0.out G1.out
  have EK : Hid (errK (vsR b i u v) 4 = 0 ∧ resK (vsR b i u v) 4 = kbZ (vsR b i u v) 4) := errK0 (by omega) (all_vsR G0.out G1.out)
  have RD : Hid (RdC (w1.alloc (.cells #[.int .i64 1, .int .i64 b, .string ⟨#[]⟩, .int .i64 1, .int .i64 i, .string ⟨#[]⟩, .int .i64 u.1, .int .i64 u.2.1, .string u.2.2, .int .i64 v.1, .int .i64 v.2.1, .string v.2.2] 25)) (some ⟨w1.heap.size, 0, none⟩) 4 (vsR b i u v)) := rd_vsR w1 b i u v
  have CK : Hid (Calls Try.prog 27 #[.slice (some ⟨w1.heap.size, 0, none⟩) 4 4] (w1.alloc (.cells #[.int .i64 1, .int .i64 b, .string ⟨#[]⟩, .int .i64 1, .int .i64 i, .string ⟨#[]⟩, .int .i64 u.1, .int .i64 u.2.1, .string u.2.2, .int .i64 v.1, .int .i64 v.2.1, .string v.2.2] 25)) (AnsK (w1.alloc (.cells #[.int .i64 1, .int .i64 b, .string ⟨#[]⟩, .int .i64 1, .int .i64 i, .string ⟨#[]⟩, .int .i64 u.1, .int .i64 u.2.1, .string u.2.2, .int .i64 v.1, .int .i64 v.2.1, .string v.2.2] 25)) (vsR b i u v) 4)) := c_implK _ 4 4 _ _ RD.out (by omega) HS.out
  clear C0 C1
  go_wp2_with fail
  refine CK.out.mono ?_
  unfold AnsK
  rw [EK.out.1, EK.out.2]
  rintro e w3 ⟨a, cap, rfl, ho, hb⟩
  have B3 : Hid (Below w.heap.size w w3) := (Bw1.out.alloc Bw1.out.size _).trans (hb.mono (by have := Bw1.out.size; simp; omega))
  have O3 : Hid (w3.ownsRow w.heap.size 5 1 (.slice a (kbZ (vsR b i u v) 4).length cap) (kbZ (vsR b i u v) 4).length ((kbZ (vsR b i u v) 4).map (Value.int .u8))) := ho.down (by have := Bw1.out.size; simp; omega)
  clear ho hb CK RD EK
  go_wp2
  go_ret2
  unfold AnsB
  rw [E.out.1, E.out.2]
  exact ⟨⟨a, cap, rfl, O3.out⟩, B3.out⟩

end Go.Proofs.Ytkfkhfagehcmiaa
