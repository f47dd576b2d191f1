/-
  The library's contract of strings.Join, laid at this seat's program.
-/
import Derived.Test.YtknjglgellhchaaDoorBa
import Derived.Ground.NamesProg
import Derived.Shelf.Lay
import Derived.Shelf.Strings.OnBuilder
namespace Go.Proofs.YtknjglgellhchaaDoor
open Go Go.Shelf Go.Proofs Go.RowKit
shelf_lay Go.Proofs.Lays.n156 Nm 156 at Tryd as laysJoin
theorem joinExtra : Builder.Extra Tryd.prog laysJoin_ren where
  sizeBuilder := by kernel_rfl
  liesBuilder := by kernel_rfl
  t5 := Tryd.underlying5
  a5 := Tryd.isAgg5
  z5 := Tryd.sizeOf5
  v5 := Tryd.zeroValue5
  infoByte := by kernel_rfl
  cellsByte := by kernel_rfl
  sizeByte := by kernel_rfl
  neB5 := by decide
/-- strings.Join with a space between. -/
def joinS (xs : List ByteArray) : ByteArray := ⟨(Lib.join (xs.map (·.data.toList)) [32]).toArray⟩
theorem c_join (g c : Nat) (xs : List ByteArray) (w : World) (hc : ∀ (j : Nat) x, xs[j]? = some x → w.cell? ⟨g, j, none⟩ = some (.string x)) (hg : g < w.heap.size) (hn : xs.length ≤ 1000) (hcap : xs.length ≤ c) (hl : (joinS xs).size ≤ 100000000) :
    Calls Tryd.prog 47 #[.slice (some ⟨g, 0, none⟩) xs.length c, .string ⟨#[32]⟩] w fun e w' => e = .returned (.string (joinS xs)) ∧ Below w.heap.size w w' := by
  have h := Any.strings_Join laysJoin joinExtra g 0 c xs ⟨#[32]⟩ w (fun j x h => by rw [Nat.zero_add]; exact hc j x h) hg (by omega) hcap (by
    have e : (joinS xs).size = (Lib.join (xs.map (·.data.toList)) [32]).length := by simp [joinS, ByteArray.size]
    have e2 : (Lib.join (xs.map (·.data.toList)) (ByteArray.mk #[32]).data.toList).length = (joinS xs).size := by rw [e]
    rw [e2]; omega)
  exact h
end Go.Proofs.YtknjglgellhchaaDoor
