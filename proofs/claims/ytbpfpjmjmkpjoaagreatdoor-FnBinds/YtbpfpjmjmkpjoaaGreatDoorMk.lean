/-
  Walks over slices of bytes and of strings: their sizes, and the marks that the laws write into them and look for.
-/
import Derived.Test.YtbpfpjmjmkpjoaaGreatDoorSl
import Derived.Deep.RegionHeld3
import Derived.Deep.DrawnRows
namespace Go.Proofs.YtbpfpjmjmkpjoaaGreatDoor
open Go Go.RowKit
attribute [local go_sem ↓] Go.wp_at_zero Go.wp_at_succ

def mixV (ys xs : List Value) (k : Nat) : List Value := ys.take k ++ xs.drop k
theorem mixV_zero (ys xs : List Value) : mixV ys xs 0 = xs := by simp [mixV]
theorem mixV_step (ys xs : List Value) (n k : Nat) (v : Value) (hx : xs.length = n) (hy : ys.length = n) (hk : k < n) (hv : ys[k]? = some v) : (mixV ys xs k).set k v = mixV ys xs (k + 1) := by
  unfold mixV
  have hl : (ys.take k).length = k := by simp; omega
  rw [List.set_append, if_neg (by omega), hl, Nat.sub_self, List.drop_eq_getElem_cons (show k < xs.length by omega), List.set_cons_zero, List.take_add_one, hv, List.append_assoc]
  rfl
theorem mixV_full (ys xs : List Value) (n : Nat) (hx : xs.length = n) (hy : ys.length = n) : mixV ys xs n = ys := by
  unfold mixV; rw [List.take_of_length_le (by omega), List.drop_eq_nil_of_le (by omega)]; simp

/-- The marks of bytes: k0, k0 + 1, .. -/
def byteM (k : Nat) : Int := ((k % 256 : Nat) : Int)
def marksB (k0 n : Nat) : List Value := (List.range n).map fun i => Value.int .u8 (byteM (k0 + i))
theorem marksB_get (k0 n k : Nat) (h : k < n) : (marksB k0 n)[k]? = some (.int .u8 (byteM (k0 + k))) := by
  unfold marksB; rw [List.getElem?_map, List.getElem?_range h]; rfl
theorem marksB_len (k0 n : Nat) : (marksB k0 n).length = n := by simp [marksB]

def mt : Nat → Nat → List UInt8 → List UInt8
  | 0, _, out => out
  | f + 1, k, out => if k = 0 then out else mt f (k / 10) (UInt8.ofNat (48 + k % 10) :: out)
def mtext (k : Nat) : ByteArray := ⟨(109 :: mt k k []).toArray⟩

def digC (k : Nat) : UInt8 := UInt8.ofNat (48 + k % 10)
theorem digC_nat (k : Nat) : ((digC k).toNat : Int) = 48 + (k : Int) % 10 := by
  unfold digC
  rw [UInt8.toNat_ofNat']
  omega
theorem conv_dig (k : Nat) (w : World) : (convert 40 9 (.slice (some ⟨w.heap.size, 0, none⟩) 1 1)).run Tryz.prog (w.alloc (.cells #[.int .u8 (48 + (k : Int) % 10)] 5)) = .ok (.string ⟨#[digC k]⟩) (w.alloc (.cells #[.int .u8 (48 + (k : Int) % 10)] 5)) := by
  have := run_convert_bytes_back (P := Tryz.prog) (w.alloc (.cells #[.int .u8 (48 + (k : Int) % 10)] 5)) 40 9 5 ⟨w.heap.size, 0, none⟩ 1 [digC k] Tryz.underlying40 Tryz.underlying5 Tryz.underlying9 (fun j hj => by
    obtain rfl : j = 0 := by simpa using hj
    rw [cell_one_new w _ 5 0 (.int .u8 (48 + (k : Int) % 10)) rfl]
    simp only [List.getElem_cons_zero]
    rw [digC_nat])
  exact this
theorem mt_step {f k : Nat} {out : List UInt8} (h : 0 < k) (hf : k ≤ f) : ∃ f', k / 10 ≤ f' ∧ mt f k out = mt f' (k / 10) (digC k :: out) := by
  obtain ⟨f', rfl⟩ : ∃ f', f = f' + 1 := ⟨f - 1, by omega⟩
  refine ⟨f', by omega, ?_⟩
  rw [mt, if_neg (by omega)]
  rfl
theorem mt_end (f : Nat) (out : List UInt8) : mt f 0 out = out := by cases f <;> rfl
theorem cat_cons (c : UInt8) (out : List UInt8) : (⟨#[c]⟩ : ByteArray) ++ ⟨out.toArray⟩ = ⟨(c :: out).toArray⟩ := by
  apply ByteArray.ext
  simp
theorem str_val {a b : ByteArray} (h : a = b) : Value.string a = Value.string b := by rw [h]
theorem ret_str {a b : ByteArray} (h : a = b) : Ending.returned (.string a) = .returned (.string b) := by rw [h]

set_option maxHeartbeats 1000000 in
theorem c_mtext (k0 : Nat) (w : World) (h1 : 1 ≤ k0) (h2 : k0 ≤ 4194304) :
    Calls Tryz.prog 83 #[.int .i64 k0] w fun e w' => e = .returned (.string (mtext k0)) ∧ Below w.heap.size w w' := by
  have hk0 : ¬ (k0 : Int) ≤ 0 := by omega
  go_enter Tryz.func83, Tryz.ntmps83
  go_wp2
  go_loopw [0, 3] (fun x o wr => ∃ (k f : Nat) (out : List UInt8), k ≤ f ∧ out.length + k ≤ k0 ∧ x = .int .i64 k ∧ o = .string ⟨out.toArray⟩ ∧ Hid (mt f k out = mt k0 k0 []) ∧ Below w.heap.size w wr) (fun x _ _ => (intOf x).toNat)
  case atStart => exact ⟨k0, k0, [], Nat.le_refl _, by simp, rfl, rfl, rfl, Below.refl _ _⟩
  case round =>
    obtain ⟨k, f, out, hkf, hol, rfl, rfl, HM, hb⟩ := hrel
    have hsz : (⟨out.toArray⟩ : ByteArray).size = out.length := by simp [ByteArray.size]
    by_cases hlt : 0 < k
    · have hcv := conv_dig k wr
      obtain ⟨f', hf', hst⟩ := mt_step (out := out) hlt hkf
      have HS : Hid (_ = _) := hst
      have hs1 : (⟨#[digC k]⟩ : ByteArray).size = 1 := rfl
      clear hst
      go_wp2
      go_roundw
      case rel => exact ⟨k / 10, f', digC k :: out, hf', by simp; omega, by go_num, str_val (cat_cons _ _), HS.out.symm.trans HM.out, hb.alloc (hb.size) _⟩
      case measure => simp [intOf]; omega
    · have e : k = 0 := by omega
      subst e
      have hs1 : (⟨#[109]⟩ : ByteArray).size = 1 := rfl
      go_wp2
      go_ret
      exact ⟨ret_str (by rw [cat_cons]; unfold mtext; rw [← HM.out, mt_end]), hb⟩

theorem c_mtextI (x : Int) (k : Nat) (w : World) (hx : x = k) (h1 : 1 ≤ k) (h2 : k ≤ 4194304) :
    Calls Tryz.prog 83 #[.int .i64 x] w fun e w' => e = .returned (.string (mtext k)) ∧ Below w.heap.size w w' := by
  subst hx; exact c_mtext k w h1 h2
def marksS (k0 n : Nat) : List Value := (List.range n).map fun i => Value.string (mtext (k0 + i))
theorem marksS_get (k0 n k : Nat) (h : k < n) : (marksS k0 n)[k]? = some (.string (mtext (k0 + k))) := by
  unfold marksS; rw [List.getElem?_map, List.getElem?_range h]; rfl
theorem marksS_len (k0 n : Nat) : (marksS k0 n).length = n := by simp [marksS]
theorem grown_of_below {w w' : World} (h : Below w.heap.size w w') (row : Option Nat) : w.grownBy w' row := ⟨h.os, h.tape, h.output, h.size, fun k hk _ => h.block k hk⟩
theorem own_below {w w' : World} {base e size n : Nat} {v : Value} {xs : List Value} (h : w.ownsRow base e size v n xs) (hb : Below w.heap.size w w') : w'.ownsRow base e size v n xs :=
  h.kept (grown_of_below hb none) (by cases hv : v.ownBlock <;> simp)

def szL : Int → List ByteArray → Int
  | l, [] => l
  | l, s :: r => if l - s.size < 0 then -1 else szL (l - s.size) r
def sizeS (left : Int) (n : Nat) (ss : List ByteArray) : Int := if left - n < 0 then -1 else szL (left - n) ss
theorem szL_ok : ∀ (ss : List ByteArray) (l : Int), 0 ≤ l → 0 ≤ szL l ss → szL l ss ≤ l ∧ ∀ s ∈ ss, (s.size : Int) ≤ l
  | [], l, _, _ => ⟨Int.le_refl _, fun _ h => by cases h⟩
  | s :: r, l, h0, h => by
    unfold szL at h
    split at h
    · omega
    · rename_i hn
      have := szL_ok r (l - s.size) (by omega) h
      rw [show szL l (s :: r) = szL (l - s.size) r by rw [szL, if_neg hn]]
      refine ⟨by omega, fun x hx => ?_⟩
      rcases List.mem_cons.1 hx with rfl | hx
      · omega
      · have := this.2 x hx; omega
theorem szL_drop {ss : List ByteArray} {k : Nat} {l : Int} (h : k < ss.length) : szL l (ss.drop k) = if l - (ss.getD k ⟨#[]⟩).size < 0 then -1 else szL (l - (ss.getD k ⟨#[]⟩).size) (ss.drop (k + 1)) := by
  rw [List.drop_eq_getElem_cons h, szL, List.getD_eq_getElem?_getD, List.getElem?_eq_getElem h]
  rfl

end Go.Proofs.YtbpfpjmjmkpjoaaGreatDoor
