/-
  The walks of ReadFields: what is read of bytes, by the program and by the specification.
-/
import Derived.Test.YtimdoaehlciecaaMk
import Derived.Deep.AppendLies
import Derived.Laws.BytesArg
import Derived.Lib.Strings
namespace Go.Proofs.Ytimdoaehlciecaa
open Go Go.RowKit

/-- Fields that are left: c of them, just these bytes. -/
def rd : Nat → List Int → Option (List ByteArray)
  | 0, [] => some []
  | 0, _ :: _ => none
  | _ + 1, [] => none
  | c + 1, z :: r => if r.length < z.toNat then none else (rd c (r.drop z.toNat)).map (strOfNums (r.take z.toNat) :: ·)
theorem rd_done {zr : List Int} : rd 0 zr = if zr.length = 0 then some [] else none := by cases zr <;> simp [rd]
theorem rd_none {c : Nat} {zr : List Int} (hc : 0 < c) (h : zr.length = 0) : rd c zr = none := by
  obtain ⟨c, rfl⟩ : ∃ c', c = c' + 1 := ⟨c - 1, by omega⟩
  cases zr
  · rfl
  · simp at h
theorem rd_short {c : Nat} {z : Int} {r : List Int} (hc : 0 < c) (h : r.length < z.toNat) : rd c (z :: r) = none := by
  obtain ⟨c, rfl⟩ : ∃ c', c = c' + 1 := ⟨c - 1, by omega⟩
  rw [rd, if_pos h]
theorem rd_step {c : Nat} {z : Int} {r : List Int} (h : ¬ r.length < z.toNat) : rd (c + 1) (z :: r) = (rd c (r.drop z.toNat)).map (strOfNums (r.take z.toNat) :: ·) := by
  rw [rd, if_neg h]
/-- What was read ahead, and what is read of the rest. -/
def onR (done : List ByteArray) (o : Option (List ByteArray)) : Option (List ByteArray) := o.map (done ++ ·)
theorem onR_step {done : List ByteArray} {c : Nat} {z : Int} {r : List Int} (h : ¬ r.length < z.toNat) : onR done (rd (c + 1) (z :: r)) = onR (done ++ [strOfNums (r.take z.toNat)]) (rd c (r.drop z.toNat)) := by
  rw [rd_step h]
  unfold onR
  cases rd c (r.drop z.toNat) <;> simp
theorem onR_none (done : List ByteArray) : onR done none = none := rfl
theorem onR_nil (done : List ByteArray) : onR done (some []) = some done := by simp [onR]
theorem onR_start (o : Option (List ByteArray)) : onR [] o = o := by cases o <;> simp [onR]

/-- The answer: the fields or none, and the code. -/
def okR (zs : List Int) : Option (List ByteArray) := match zs with
  | [] => none
  | z :: r => if 100 < z then none else rd z.toNat r
def errR (zs : List Int) : Int := if 65536 < zs.length then 2 else match okR zs with
  | none => 3
  | some _ => 0
def resR (zs : List Int) : List ByteArray := if 65536 < zs.length then [] else (okR zs).getD []
theorem ansR2 {zs : List Int} (h : 65536 < zs.length) : errR zs = 2 ∧ resR zs = [] := by unfold errR resR; rw [if_pos h, if_pos h]; exact ⟨rfl, rfl⟩
theorem ansR3 {zs : List Int} (h : ¬ 65536 < zs.length) (h' : okR zs = none) : errR zs = 3 ∧ resR zs = [] := by unfold errR resR; rw [if_neg h, if_neg h, h']; exact ⟨rfl, rfl⟩
theorem ansR0 {zs : List Int} {l : List ByteArray} (h : ¬ 65536 < zs.length) (h' : okR zs = some l) : errR zs = 0 ∧ resR zs = l := by unfold errR resR; rw [if_neg h, if_neg h, h']; exact ⟨rfl, rfl⟩

def AnsR (w : World) (zs : List Int) (e : Ending) (w' : World) : Prop :=
  ∃ a cap, e = .returned (.tuple #[.slice a (resR zs).length cap, .int .i64 (errR zs)]) ∧ w'.ownsRow w.heap.size 9 1 (.slice a (resR zs).length cap) (resR zs).length ((resR zs).map Value.string) ∧ Below w.heap.size w w'
theorem ansR_nil {w w' : World} {zs : List Int} {c : Int} (h : errR zs = c ∧ resR zs = []) (hb : Below w.heap.size w w') : AnsR w zs (.returned (.tuple #[.slice none 0 0, .int .i64 c])) w' := by
  unfold AnsR
  rw [h.1, h.2]
  exact ⟨none, 0, rfl, World.ownsRow_nil _ _ _ _, hb⟩
theorem ansR_empty {w w1 : World} {zs : List Int} {c : Int} (h : errR zs = c ∧ resR zs = []) (hb : Below w.heap.size w w1) : AnsR w zs (.returned (.tuple #[.slice (some ⟨w1.heap.size, 0, none⟩) 0 0, .int .i64 c])) (w1.alloc (.cells #[] 9)) := by
  unfold AnsR
  rw [h.1, h.2]
  exact ⟨_, 0, rfl, World.ownsRow_lit w1 #[] 0 hb.size (Nat.zero_le _) rfl, hb.alloc hb.size _⟩
theorem own_slice' {w : World} {base e size n : Nat} {v : Value} {xs : List Value} (h : w.ownsRow base e size v n xs) : ∃ a cap, v = .slice a n cap := by
  rcases own_form h with ⟨rfl, rfl⟩ | ⟨g, cap, rfl, _, _⟩
  · exact ⟨none, 0, rfl⟩
  · exact ⟨_, cap, rfl⟩
theorem ansR_own {w w' : World} {zs : List Int} {v : Value} {l : List ByteArray} (h : errR zs = 0 ∧ resR zs = l) (ho : w'.ownsRow w.heap.size 9 1 v l.length (l.map Value.string)) (hb : Below w.heap.size w w') : AnsR w zs (.returned (.tuple #[v, .int .i64 0])) w' := by
  unfold AnsR
  rw [h.1, h.2]
  obtain ⟨a, cap, rfl⟩ := own_slice' ho
  exact ⟨a, cap, rfl, ho, hb⟩

/-- A slice of bytes from l on. -/
theorem RdV.cut {w : World} {b off n : Nat} {zs : List Int} (h : RdV w (some ⟨b, off, none⟩) n (zs.map (Value.int .u8))) (l m : Nat) (hm : l + m ≤ n) : RdV w (some ⟨b, off + l, none⟩) m (((zs.drop l).take m).map (Value.int .u8)) := by
  obtain ⟨hl, hc⟩ := h
  simp only [List.length_map] at hl
  refine ⟨by simp; omega, fun hm0 => ?_⟩
  obtain ⟨b', off', e, hlt, hc⟩ := hc (by omega)
  cases e
  refine ⟨b, off + l, rfl, hlt, fun i hi => ?_⟩
  rw [Nat.add_assoc, hc (l + i) (by omega), List.getElem?_map, List.getElem?_map, List.getElem?_take_of_lt hi, List.getElem?_drop]
theorem RdV.nil8 (w : World) (a : Option Addr) : RdV w a 0 (([] : List Int).map (Value.int .u8)) := ⟨rfl, fun h => absurd h (by omega)⟩

theorem RdV.nil8' (w : World) (a : Option Addr) {l : List Int} {n : Nat} (h : l.length = 0) (hn : n = 0) : RdV w a n (l.map (Value.int .u8)) := by
  obtain rfl := List.length_eq_zero_iff.1 h
  rw [hn]
  exact RdV.nil8 w a

theorem infoS9 : (Try.prog.info? 9).map (fun i => (i.zero, i.size, i.bytes)) = some (some (.string ⟨#[]⟩), 1, 16) := by kernel_rfl
theorem conv8 {w : World} {a : Option Addr} {n cap : Nat} {zs : List Int} (h : RdV w a n (zs.map (Value.int .u8))) : (convert 73 9 (.slice a n cap)).run Try.prog w = .ok (.string (strOfNums zs)) w := by
  obtain ⟨hl, hc⟩ := h
  simp only [List.length_map] at hl
  by_cases h0 : n = 0
  · subst h0
    obtain rfl : zs = [] := List.length_eq_zero_iff.1 hl
    cases a with
    | none => exact run_convert_bytes_nil w 73 5 Try.underlying73 Try.underlying5 0 cap 9 Try.underlying9
    | some x =>
      have := run_convert_bytes_back (P := Try.prog) w 73 9 5 x cap [] Try.underlying73 Try.underlying5 Try.underlying9 (fun j hj => absurd hj (by simp))
      exact this
  · obtain ⟨b, off, rfl, _, hc⟩ := hc (by omega)
    exact run_convert_bytes_arg w 73 5 Try.underlying73 Try.underlying5 b off n cap zs hl (fun i hi => by rw [hc i hi]; exact map_get _ _ _ _ (by omega)) 9 Try.underlying9

end Go.Proofs.Ytimdoaehlciecaa
